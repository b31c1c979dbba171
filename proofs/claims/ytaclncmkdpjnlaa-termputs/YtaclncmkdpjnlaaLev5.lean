/- check, May, isSound; the reference's may, May, sound, Sound. -/
import Derived.Test.YtaclncmkdpjnlaaLev1
namespace Go.Proofs.Ytaclncmkdpjnlaa
open Go.RowKit Go.Shelf
set_option linter.unusedVariables false
set_option linter.unusedSimpArgs false

theorem chk_two {D top vars d : Int} {r : Nat} {k n : Int} {ls : List Lv} (h : D < d ∨ r = 0) : (chk D top vars d r (.mk k n ls)).1 = 2 := by
  have e : nodeE D top vars d r k n ls.length = 2 := by rw [nodeE, if_pos h]
  rw [chk_out (by rw [e]; decide), e]
theorem chk_one {D top vars d : Int} {r : Nat} {k n : Int} {ls : List Lv} (h : ¬ (D < d ∨ r = 0)) (h1 : kidsB k ls.length = false ∨ numB top k n = false) : (chk D top vars d r (.mk k n ls)).1 = 1 := by
  have e : nodeE D top vars d r k n ls.length = 1 := by rw [nodeE, if_neg h, if_pos h1]
  rw [chk_out (by rw [e]; decide), e]
theorem chk_ten {D top vars d : Int} {r : Nat} {k n : Int} {ls : List Lv} (h : ¬ (D < d ∨ r = 0)) (h1 : kidsB k ls.length = true) (h2 : numB top k n = true) (h3 : k = 2 ∧ (n < 0 ∨ vars ≤ n)) : (chk D top vars d r (.mk k n ls)).1 = 10 := by
  have e : nodeE D top vars d r k n ls.length = 10 := by rw [nodeE, if_neg h, if_neg (by rw [h1, h2]; simp), if_pos h3]
  rw [chk_out (by rw [e]; decide), e]
theorem RL.one1 {W : World} {x : C3} {l : Lv} (h : RL W x l) : x.2.2.oneCell' = true := by
  obtain ⟨_, _, h⟩ := h.slice
  exact h.one
theorem drop_at {α : Type} {ls : List α} {i : Nat} {l : α} (h : ls[i]? = some l) : ls.drop i = l :: ls.drop (i + 1) := by
  obtain ⟨hi, rfl⟩ := List.getElem?_eq_some_iff.1 h
  exact List.drop_eq_getElem_cons hi
theorem arI_kids {k : Int} {len : Nat} : kidsB k len = true ↔ 0 ≤ arI k ∧ (len : Int) = arI k := by
  rw [kidsB_iff]
  unfold arI
  split
  · omega
  · split
    · omega
    · split
      · omega
      · omega
theorem arI_no {k : Int} {len : Nat} (h : arI k < 0 ∨ (len : Int) ≠ arI k) : kidsB k len = false := Bool.eq_false_iff.2 fun h1 => by have := arI_kids.1 h1; omega
theorem numB_no {top k n : Int} (h : ¬ ((k = 1 → 0 ≤ n ∧ n ≤ top) ∧ (k = 3 → 1 ≤ n ∧ n ≤ top))) : numB top k n = false := Bool.eq_false_iff.2 fun h1 => h (numB_iff.1 h1)
theorem kids_le {k : Int} {len : Nat} (h : kidsB k len = true) : len ≤ 2 := by
  have := kidsB_iff.1 h
  omega
theorem int_of {x y : Int} (h : x = y) : Value.int .i64 x = Value.int .i64 y := by rw [h]

set_option maxRecDepth 100000 in
set_option maxHeartbeats 1600000 in
theorem check34 (D top vars : Int) (hD : D ≤ 256) (w0 : World) (g : Nat) (hg : w0.heap.size ≤ g) : ∀ (x : C3) (l : Lv), RL w0 x l → ∀ (d : Int) (r : Nat) (w1 : World), 1 ≤ d → d ≤ 300 → r ≤ 1000 → Below w0.heap.size w0 w1 → Blk w1 g 135 [.int .i64 D, .int .i64 (r : Int), .int .i64 top, .int .i64 vars] →
    Calls Try.prog 122 #[lv x, .int .i64 d, .pointer (some ⟨g, 0, none⟩)] w1 fun e w' => ∃ v, e = .returned v ∧ (v = .int .i64 (chk D top vars d r l).1 ∧ ((chk D top vars d r l).1 = 0 → Blk w' g 135 [.int .i64 D, .int .i64 ((chk D top vars d r l).2 : Int), .int .i64 top, .int .i64 vars])) ∧ Ktw g g w1 w' := by
  intro x l h
  induction h with
  | @mk k n v xs ls hR hl hk ih =>
  intro d r w1 hd1 hd2 hr hB mg
  obtain ⟨av, cv, rfl, _⟩ := hR.form
  have hK := Ktw.refl g g w1
  have sB := hB.size
  have hgl := mg.lt
  refine calls_fs 75 [(0, .agg [.int .i64 k, .int .i64 n, .slice av xs.length cv].toArray), (1, .int .i64 d), (2, .pointer (some ⟨g, 0, none⟩))] Try.func122 rfl rfl rfl rfl rfl fun a hF => ?_
  refine wp_rs fun K1 hK1 => ?_
  refine s_box ([.int .i64 k, .int .i64 n, .slice av xs.length cv]) hF (by decide) rfl rfl fun w2 b3 a eb3 m3 B3 zb3 hF => ?_
  have sB3 := B3.size
  have hB := hB.trans (B3.mono hB.size)
  have hK := hK.below B3
  have mg := mg.old B3
  refine s_val hF (x_assign rfl) (by decide) fun a hF => ?_
  refine s_end (hK1 _ _ ?_)
  refine wp_seq_k fun K2 hK2 => ?_
  rcases (show D < d ∨ (d ≤ D ∧ r = 0) ∨ (d ≤ D ∧ r ≠ 0) by omega) with hp | hp | hp
  · skip
    refine wp_rs fun K4 hK4 => ?_
    refine s_val hF (x_move rfl) (by decide) fun a hF => ?_
    refine s_val hF (x_move rfl) (by decide) fun a hF => ?_
    refine s_val hF (x_nil rfl) (by decide) fun a hF => ?_
    refine s_val hF (x_fa0 fa54_0 rfl) (by decide) fun a hF => ?_
    refine s_val hF (x_load rfl (m_load flat3 (mg.cell (j := 0) rfl))) (by decide) fun a hF => ?_
    refine s_val hF (x_gtr (b := true) (decide_eq_true (by omega)) rfl rfl) (by decide) fun a hF => ?_
    refine s_val hF (x_move rfl) (by decide) fun a hF => ?_
    refine s_grdn 16 hF rfl rfl (by decide) fun a hF => ?_
    refine s_grdn 16 hF rfl rfl (by decide) fun a hF => ?_
    refine s_grdn 16 hF rfl rfl (by decide) fun a hF => ?_
    refine s_grdn 16 hF rfl rfl (by decide) fun a hF => ?_
    refine s_grdn 16 hF rfl rfl (by decide) fun a hF => ?_
    refine s_val hF (x_pick (b := true) rfl rfl) (by decide) fun a hF => ?_
    refine s_end (hK4 _ _ ?_)
    refine wp_if hF rfl ?_
    refine wp_rs fun K5 hK5 => ?_
    refine s_val hF (x_assign rfl) (by decide) fun a hF => ?_
    refine s_end (hK5 _ _ ?_)
    refine wp_ret (then_ret (res_slot hF rfl rfl ⟨_, rfl, ⟨int_of (chk_two (by omega)).symm, fun h => absurd ((chk_two (by omega)).symm.trans h) (by decide)⟩, hK⟩))
  · skip
    refine wp_rs fun K6 hK6 => ?_
    refine s_val hF (x_move rfl) (by decide) fun a hF => ?_
    refine s_val hF (x_move rfl) (by decide) fun a hF => ?_
    refine s_val hF (x_nil rfl) (by decide) fun a hF => ?_
    refine s_val hF (x_fa0 fa54_0 rfl) (by decide) fun a hF => ?_
    refine s_val hF (x_load rfl (m_load flat3 (mg.cell (j := 0) rfl))) (by decide) fun a hF => ?_
    refine s_val hF (x_gtr (b := false) (decide_eq_false (by omega)) rfl rfl) (by decide) fun a hF => ?_
    refine s_val hF (x_move rfl) (by decide) fun a hF => ?_
    refine s_grd 16 hF rfl rfl rfl ?_
    refine s_val hF (x_move rfl) (by decide) fun a hF => ?_
    refine s_grd 16 hF rfl rfl rfl ?_
    refine s_val hF (x_nil rfl) (by decide) fun a hF => ?_
    refine s_grd 16 hF rfl rfl rfl ?_
    refine s_val hF (x_fa0 fa54_1 rfl) (by decide) fun a hF => ?_
    refine s_grd 16 hF rfl rfl rfl ?_
    refine s_val hF (x_load rfl (m_load flat3 (mg.cell (j := 1) rfl))) (by decide) fun a hF => ?_
    refine s_grd 16 hF rfl rfl rfl ?_
    refine s_val hF (x_eql (b := true) (decide_eq_true (by omega)) rfl rfl) (by decide) fun a hF => ?_
    refine s_val hF (x_pick (b := false) rfl rfl) (by decide) fun a hF => ?_
    refine s_end (hK6 _ _ ?_)
    refine wp_if hF rfl ?_
    refine wp_rs fun K7 hK7 => ?_
    refine s_val hF (x_assign rfl) (by decide) fun a hF => ?_
    refine s_end (hK7 _ _ ?_)
    refine wp_ret (then_ret (res_slot hF rfl rfl ⟨_, rfl, ⟨int_of (chk_two (by omega)).symm, fun h => absurd ((chk_two (by omega)).symm.trans h) (by decide)⟩, hK⟩))
  · skip
    refine wp_rs fun K8 hK8 => ?_
    refine s_val hF (x_move rfl) (by decide) fun a hF => ?_
    refine s_val hF (x_move rfl) (by decide) fun a hF => ?_
    refine s_val hF (x_nil rfl) (by decide) fun a hF => ?_
    refine s_val hF (x_fa0 fa54_0 rfl) (by decide) fun a hF => ?_
    refine s_val hF (x_load rfl (m_load flat3 (mg.cell (j := 0) rfl))) (by decide) fun a hF => ?_
    refine s_val hF (x_gtr (b := false) (decide_eq_false (by omega)) rfl rfl) (by decide) fun a hF => ?_
    refine s_val hF (x_move rfl) (by decide) fun a hF => ?_
    refine s_grd 16 hF rfl rfl rfl ?_
    refine s_val hF (x_move rfl) (by decide) fun a hF => ?_
    refine s_grd 16 hF rfl rfl rfl ?_
    refine s_val hF (x_nil rfl) (by decide) fun a hF => ?_
    refine s_grd 16 hF rfl rfl rfl ?_
    refine s_val hF (x_fa0 fa54_1 rfl) (by decide) fun a hF => ?_
    refine s_grd 16 hF rfl rfl rfl ?_
    refine s_val hF (x_load rfl (m_load flat3 (mg.cell (j := 1) rfl))) (by decide) fun a hF => ?_
    refine s_grd 16 hF rfl rfl rfl ?_
    refine s_val hF (x_eql (b := false) (decide_eq_false (by omega)) rfl rfl) (by decide) fun a hF => ?_
    refine s_val hF (x_pick (b := false) rfl rfl) (by decide) fun a hF => ?_
    refine s_end (hK8 _ _ ?_)
    refine wp_if hF rfl ?_
    refine wp_skip (hK2 _ _ ?_)
    refine wp_rs fun K9 hK9 => ?_
    refine s_val hF (x_move rfl) (by decide) fun a hF => ?_
    refine s_val hF (x_nil rfl) (by decide) fun a hF => ?_
    refine s_val hF (x_fa0 fa54_1 rfl) (by decide) fun a hF => ?_
    refine s_val hF (x_load rfl (m_load flat3 (mg.cell (j := 1) rfl))) (by decide) fun a hF => ?_
    refine s_val hF (x_subn (r - 1) (by omega) (by omega) rfl rfl) (by decide) fun a hF => ?_
    refine s_val hF (x_nil rfl) (by decide) fun a hF => ?_
    refine s_val hF (x_fa0 fa54_1 rfl) (by decide) fun a hF => ?_
    refine s_put hF rfl rfl flat3 mg (by simp) rfl fun w4 mg o5 => ?_
    have so5 := o5.size
    have hB := hB.trans (o5.below (by omega))
    have hK := hK.only o5 (by omega)
    have m3 := m3.only o5 (by omega)
    refine s_end (hK9 _ _ ?_)
    refine wp_seq_k fun K10 hK10 => ?_
    rcases (show kidsB k xs.length = false ∨ (kidsB k xs.length = true ∧ numB top k n = false) ∨ (kidsB k xs.length = true ∧ numB top k n = true) by cases kidsB k xs.length <;> cases numB top k n <;> simp) with hkb | ⟨hkb, hnb⟩ | ⟨hkb, hnb⟩
    · have hq : kidsB k ls.length = false ∨ numB top k n = false := .inl (by rw [← hl]; exact hkb)
      refine dk2_seq (w4.heap.size) (w4.heap.size) (ops := regOps Try.f122 4) (N := 12) (by kernel_rfl) wide_orders (by kernel_rfl) fun w6 hw6 B7 hS K12 hK12 => ?_
      have zw6 : w6.heap.size = w4.heap.size := by rw [hw6]
      have sB7 := B7.size
      have hB := hB.trans (B7.mono hB.size)
      have hK := hK.below B7
      have mg := mg.old B7
      have m3 := m3.old B7
      have mg_d := mg
      have m3_d := m3
      have hB_d := hB
      have hK_d := hK
      refine d_val 0 30 (op := (Go.Op.load 24 (Go.Operand.tmp 3))) hF hS (by kernel_rfl) (fun W hW => x_ldW wide24 (m3_d.k2 hW (by omega)) rfl rfl) (by kernel_rfl) (by decide) fun a hF => ?_
      refine d_one 1 (some 31) (Go.Op.call (Go.Call.mk (Go.Callee.value (Go.Operand.func 132)) #[(Go.Operand.tmp 30)] #[24])) (by kernel_rfl) (by kernel_rfl) fun ty pos af => ?_
      refine s_callB [_] hF (enters_of Try.func132 (by kernel_rfl) rfl) rfl (by decide) (hasKids56 k n _ _ _ w6 (hR.below hB)) fun w8 a B9 hF => ?_
      have sB9 := B9.size
      have hB := hB.trans (B9.mono hB.size)
      have hK := hK.below B9
      have mg := mg.old B9
      have m3 := m3.old B9
      have hS := hS.below B9
      rw [hkb] at hF
      refine s_end ⟨hS, ?_⟩
      refine d_val 2 32 (op := (Go.Op.unOp Go.UnOp.not 4 (Go.Operand.tmp 31))) hF hS (by kernel_rfl) (fun W hW => x_not rfl) (by kernel_rfl) (by decide) fun a hF => ?_
      refine d_val 3 33 (op := (Go.Op.move (Go.Operand.tmp 32))) hF hS (by kernel_rfl) (fun W hW => x_move rfl) (by kernel_rfl) (by decide) fun a hF => ?_
      refine d_skip 4 34 33 (j := 3) (want := false) (op := (Go.Op.load 24 (Go.Operand.tmp 3))) hF hS (by kernel_rfl) (by kernel_rfl) rfl (by kernel_rfl) (by decide) fun a hF => ?_
      refine d_skip 5 35 33 (j := 3) (want := false) (op := (Go.Op.move (Go.Operand.tmp 2))) hF hS (by kernel_rfl) (by kernel_rfl) rfl (by kernel_rfl) (by decide) fun a hF => ?_
      refine d_skip 6 36 33 (j := 3) (want := false) (op := (Go.Op.nilCheck (Go.Operand.tmp 35))) hF hS (by kernel_rfl) (by kernel_rfl) rfl (by kernel_rfl) (by decide) fun a hF => ?_
      refine d_skip 7 37 33 (j := 3) (want := false) (op := (Go.Op.fieldAddr 135 (Go.Operand.tmp 36) 2)) hF hS (by kernel_rfl) (by kernel_rfl) rfl (by kernel_rfl) (by decide) fun a hF => ?_
      refine d_skip 8 38 33 (j := 3) (want := false) (op := (Go.Op.load 3 (Go.Operand.tmp 37))) hF hS (by kernel_rfl) (by kernel_rfl) rfl (by kernel_rfl) (by decide) fun a hF => ?_
      refine d_skip 9 39 33 (j := 3) (want := false) (op := (Go.Op.call (Go.Call.mk (Go.Callee.value (Go.Operand.func 133)) #[(Go.Operand.tmp 34), (Go.Operand.tmp 38)] #[24, 3]))) hF hS (by kernel_rfl) (by kernel_rfl) rfl (by kernel_rfl) (by decide) fun a hF => ?_
      refine d_skip 10 40 33 (j := 3) (want := false) (op := (Go.Op.unOp Go.UnOp.not 4 (Go.Operand.tmp 39))) hF hS (by kernel_rfl) (by kernel_rfl) rfl (by kernel_rfl) (by decide) fun a hF => ?_
      refine d_val 11 41 (op := (Go.Op.pick (Go.Operand.tmp 33) (Go.Operand.const (Go.Value.bool true)) (Go.Operand.tmp 40))) hF hS (by kernel_rfl) (fun W hW => x_pick (b := true) rfl rfl) (by kernel_rfl) (by decide) fun a hF => ?_
      refine d_end (by kernel_rfl) (hK12 _ _ ?_)
      refine wp_if hF rfl ?_
      refine wp_rs fun K13 hK13 => ?_
      refine s_val hF (x_assign rfl) (by decide) fun a hF => ?_
      refine s_end (hK13 _ _ ?_)
      refine wp_ret (then_ret (res_slot hF rfl rfl ⟨_, rfl, ⟨int_of (chk_one (by omega) hq).symm, fun h => absurd ((chk_one (by omega) hq).symm.trans h) (by decide)⟩, hK⟩))
    · have hq : kidsB k ls.length = false ∨ numB top k n = false := .inr hnb
      refine dk2_seq (w4.heap.size) (w4.heap.size) (ops := regOps Try.f122 4) (N := 12) (by kernel_rfl) wide_orders (by kernel_rfl) fun w10 hw10 B11 hS K14 hK14 => ?_
      have zw10 : w10.heap.size = w4.heap.size := by rw [hw10]
      have sB11 := B11.size
      have hB := hB.trans (B11.mono hB.size)
      have hK := hK.below B11
      have mg := mg.old B11
      have m3 := m3.old B11
      have mg_d := mg
      have m3_d := m3
      have hB_d := hB
      have hK_d := hK
      refine d_val 0 30 (op := (Go.Op.load 24 (Go.Operand.tmp 3))) hF hS (by kernel_rfl) (fun W hW => x_ldW wide24 (m3_d.k2 hW (by omega)) rfl rfl) (by kernel_rfl) (by decide) fun a hF => ?_
      refine d_one 1 (some 31) (Go.Op.call (Go.Call.mk (Go.Callee.value (Go.Operand.func 132)) #[(Go.Operand.tmp 30)] #[24])) (by kernel_rfl) (by kernel_rfl) fun ty pos af => ?_
      refine s_callB [_] hF (enters_of Try.func132 (by kernel_rfl) rfl) rfl (by decide) (hasKids56 k n _ _ _ w10 (hR.below hB)) fun w12 a B13 hF => ?_
      have sB13 := B13.size
      have hB := hB.trans (B13.mono hB.size)
      have hK := hK.below B13
      have mg := mg.old B13
      have m3 := m3.old B13
      have hS := hS.below B13
      rw [hkb] at hF
      refine s_end ⟨hS, ?_⟩
      refine d_val 2 32 (op := (Go.Op.unOp Go.UnOp.not 4 (Go.Operand.tmp 31))) hF hS (by kernel_rfl) (fun W hW => x_not rfl) (by kernel_rfl) (by decide) fun a hF => ?_
      refine d_val 3 33 (op := (Go.Op.move (Go.Operand.tmp 32))) hF hS (by kernel_rfl) (fun W hW => x_move rfl) (by kernel_rfl) (by decide) fun a hF => ?_
      refine d_valg 4 34 33 (j := 3) (want := false) (op := (Go.Op.load 24 (Go.Operand.tmp 3))) hF hS (by kernel_rfl) (by kernel_rfl) rfl (fun W hW => x_ldW wide24 (m3_d.k2 hW (by omega)) rfl rfl) (by kernel_rfl) (by decide) fun a hF => ?_
      refine d_valg 5 35 33 (j := 3) (want := false) (op := (Go.Op.move (Go.Operand.tmp 2))) hF hS (by kernel_rfl) (by kernel_rfl) rfl (fun W hW => x_move rfl) (by kernel_rfl) (by decide) fun a hF => ?_
      refine d_valg 6 36 33 (j := 3) (want := false) (op := (Go.Op.nilCheck (Go.Operand.tmp 35))) hF hS (by kernel_rfl) (by kernel_rfl) rfl (fun W hW => x_nil rfl) (by kernel_rfl) (by decide) fun a hF => ?_
      refine d_valg 7 37 33 (j := 3) (want := false) (op := (Go.Op.fieldAddr 135 (Go.Operand.tmp 36) 2)) hF hS (by kernel_rfl) (by kernel_rfl) rfl (fun W hW => x_fa0 fa54_2 rfl) (by kernel_rfl) (by decide) fun a hF => ?_
      refine d_valg 8 38 33 (j := 3) (want := false) (op := (Go.Op.load 3 (Go.Operand.tmp 37))) hF hS (by kernel_rfl) (by kernel_rfl) rfl (fun W hW => x_load rfl (m_load flat3 ((mg_d.k2 hW (by omega)).cell (j := 2) rfl))) (by kernel_rfl) (by decide) fun a hF => ?_
      refine d_oneg 9 33 (some 39) (Go.Op.call (Go.Call.mk (Go.Callee.value (Go.Operand.func 133)) #[(Go.Operand.tmp 34), (Go.Operand.tmp 38)] #[24, 3])) (j := 3) (want := false) hF (by kernel_rfl) (by kernel_rfl) (by kernel_rfl) rfl fun ty pos af => ?_
      refine s_callB [_, _] hF (enters_of Try.func133 (by kernel_rfl) rfl) rfl (by decide) (hasNumber57 k n top _ w12) fun w14 a B15 hF => ?_
      have sB15 := B15.size
      have hB := hB.trans (B15.mono hB.size)
      have hK := hK.below B15
      have mg := mg.old B15
      have m3 := m3.old B15
      have hS := hS.below B15
      rw [hnb] at hF
      refine s_end ⟨hS, ?_⟩
      refine d_valg 10 40 33 (j := 3) (want := false) (op := (Go.Op.unOp Go.UnOp.not 4 (Go.Operand.tmp 39))) hF hS (by kernel_rfl) (by kernel_rfl) rfl (fun W hW => x_not rfl) (by kernel_rfl) (by decide) fun a hF => ?_
      refine d_val 11 41 (op := (Go.Op.pick (Go.Operand.tmp 33) (Go.Operand.const (Go.Value.bool true)) (Go.Operand.tmp 40))) hF hS (by kernel_rfl) (fun W hW => x_pick (b := false) rfl rfl) (by kernel_rfl) (by decide) fun a hF => ?_
      refine d_end (by kernel_rfl) (hK14 _ _ ?_)
      refine wp_if hF rfl ?_
      refine wp_rs fun K15 hK15 => ?_
      refine s_val hF (x_assign rfl) (by decide) fun a hF => ?_
      refine s_end (hK15 _ _ ?_)
      refine wp_ret (then_ret (res_slot hF rfl rfl ⟨_, rfl, ⟨int_of (chk_one (by omega) hq).symm, fun h => absurd ((chk_one (by omega) hq).symm.trans h) (by decide)⟩, hK⟩))
    · have hkl : kidsB k ls.length = true := by rw [← hl]; exact hkb
      refine dk2_seq (w4.heap.size) (w4.heap.size) (ops := regOps Try.f122 4) (N := 12) (by kernel_rfl) wide_orders (by kernel_rfl) fun w16 hw16 B17 hS K16 hK16 => ?_
      have zw16 : w16.heap.size = w4.heap.size := by rw [hw16]
      have sB17 := B17.size
      have hB := hB.trans (B17.mono hB.size)
      have hK := hK.below B17
      have mg := mg.old B17
      have m3 := m3.old B17
      have mg_d := mg
      have m3_d := m3
      have hB_d := hB
      have hK_d := hK
      refine d_val 0 30 (op := (Go.Op.load 24 (Go.Operand.tmp 3))) hF hS (by kernel_rfl) (fun W hW => x_ldW wide24 (m3_d.k2 hW (by omega)) rfl rfl) (by kernel_rfl) (by decide) fun a hF => ?_
      refine d_one 1 (some 31) (Go.Op.call (Go.Call.mk (Go.Callee.value (Go.Operand.func 132)) #[(Go.Operand.tmp 30)] #[24])) (by kernel_rfl) (by kernel_rfl) fun ty pos af => ?_
      refine s_callB [_] hF (enters_of Try.func132 (by kernel_rfl) rfl) rfl (by decide) (hasKids56 k n _ _ _ w16 (hR.below hB)) fun w18 a B19 hF => ?_
      have sB19 := B19.size
      have hB := hB.trans (B19.mono hB.size)
      have hK := hK.below B19
      have mg := mg.old B19
      have m3 := m3.old B19
      have hS := hS.below B19
      rw [hkb] at hF
      refine s_end ⟨hS, ?_⟩
      refine d_val 2 32 (op := (Go.Op.unOp Go.UnOp.not 4 (Go.Operand.tmp 31))) hF hS (by kernel_rfl) (fun W hW => x_not rfl) (by kernel_rfl) (by decide) fun a hF => ?_
      refine d_val 3 33 (op := (Go.Op.move (Go.Operand.tmp 32))) hF hS (by kernel_rfl) (fun W hW => x_move rfl) (by kernel_rfl) (by decide) fun a hF => ?_
      refine d_valg 4 34 33 (j := 3) (want := false) (op := (Go.Op.load 24 (Go.Operand.tmp 3))) hF hS (by kernel_rfl) (by kernel_rfl) rfl (fun W hW => x_ldW wide24 (m3_d.k2 hW (by omega)) rfl rfl) (by kernel_rfl) (by decide) fun a hF => ?_
      refine d_valg 5 35 33 (j := 3) (want := false) (op := (Go.Op.move (Go.Operand.tmp 2))) hF hS (by kernel_rfl) (by kernel_rfl) rfl (fun W hW => x_move rfl) (by kernel_rfl) (by decide) fun a hF => ?_
      refine d_valg 6 36 33 (j := 3) (want := false) (op := (Go.Op.nilCheck (Go.Operand.tmp 35))) hF hS (by kernel_rfl) (by kernel_rfl) rfl (fun W hW => x_nil rfl) (by kernel_rfl) (by decide) fun a hF => ?_
      refine d_valg 7 37 33 (j := 3) (want := false) (op := (Go.Op.fieldAddr 135 (Go.Operand.tmp 36) 2)) hF hS (by kernel_rfl) (by kernel_rfl) rfl (fun W hW => x_fa0 fa54_2 rfl) (by kernel_rfl) (by decide) fun a hF => ?_
      refine d_valg 8 38 33 (j := 3) (want := false) (op := (Go.Op.load 3 (Go.Operand.tmp 37))) hF hS (by kernel_rfl) (by kernel_rfl) rfl (fun W hW => x_load rfl (m_load flat3 ((mg_d.k2 hW (by omega)).cell (j := 2) rfl))) (by kernel_rfl) (by decide) fun a hF => ?_
      refine d_oneg 9 33 (some 39) (Go.Op.call (Go.Call.mk (Go.Callee.value (Go.Operand.func 133)) #[(Go.Operand.tmp 34), (Go.Operand.tmp 38)] #[24, 3])) (j := 3) (want := false) hF (by kernel_rfl) (by kernel_rfl) (by kernel_rfl) rfl fun ty pos af => ?_
      refine s_callB [_, _] hF (enters_of Try.func133 (by kernel_rfl) rfl) rfl (by decide) (hasNumber57 k n top _ w18) fun w20 a B21 hF => ?_
      have sB21 := B21.size
      have hB := hB.trans (B21.mono hB.size)
      have hK := hK.below B21
      have mg := mg.old B21
      have m3 := m3.old B21
      have hS := hS.below B21
      rw [hnb] at hF
      refine s_end ⟨hS, ?_⟩
      refine d_valg 10 40 33 (j := 3) (want := false) (op := (Go.Op.unOp Go.UnOp.not 4 (Go.Operand.tmp 39))) hF hS (by kernel_rfl) (by kernel_rfl) rfl (fun W hW => x_not rfl) (by kernel_rfl) (by decide) fun a hF => ?_
      refine d_val 11 41 (op := (Go.Op.pick (Go.Operand.tmp 33) (Go.Operand.const (Go.Value.bool true)) (Go.Operand.tmp 40))) hF hS (by kernel_rfl) (fun W hW => x_pick (b := false) rfl rfl) (by kernel_rfl) (by decide) fun a hF => ?_
      refine d_end (by kernel_rfl) (hK16 _ _ ?_)
      refine wp_if hF rfl ?_
      refine wp_skip (hK10 _ _ ?_)
      refine wp_seq_k fun K17 hK17 => ?_
      rcases (show (k = 2 ∧ n < 0) ∨ (k = 2 ∧ 0 ≤ n ∧ vars ≤ n) ∨ (k = 2 ∧ 0 ≤ n ∧ n < vars) ∨ k ≠ 2 by omega) with hv | hv | hv | hv
      · skip
        refine dk2_seq (w20.heap.size) (w20.heap.size) (ops := regOps Try.f122 6) (N := 17) (by kernel_rfl) wide_orders (by kernel_rfl) fun w22 hw22 B23 hS K19 hK19 => ?_
        have zw22 : w22.heap.size = w20.heap.size := by rw [hw22]
        have sB23 := B23.size
        have hB := hB.trans (B23.mono hB.size)
        have hK := hK.below B23
        have mg := mg.old B23
        have m3 := m3.old B23
        have mg_d := mg
        have m3_d := m3
        have hB_d := hB
        have hK_d := hK
        refine d_val 0 42 (op := (Go.Op.fieldAddr 24 (Go.Operand.tmp 3) 0)) hF hS (by kernel_rfl) (fun W hW => x_fa0 fa24_0 rfl) (by kernel_rfl) (by decide) fun a hF => ?_
        refine d_val 1 43 (op := (Go.Op.load 3 (Go.Operand.tmp 42))) hF hS (by kernel_rfl) (fun W hW => x_load rfl (m_load flat3 ((m3_d.k2 hW (by omega)).cell (j := 0) rfl))) (by kernel_rfl) (by decide) fun a hF => ?_
        refine d_val 2 44 (op := (Go.Op.binOp Go.BinOp.eql 3 (Go.Operand.tmp 43) (Go.Operand.const (Go.Value.int Go.IntKind.i64 2)) 3)) hF hS (by kernel_rfl) (fun W hW => x_eql (b := true) (decide_eq_true (by omega)) rfl rfl) (by kernel_rfl) (by decide) fun a hF => ?_
        refine d_val 3 45 (op := (Go.Op.move (Go.Operand.tmp 44))) hF hS (by kernel_rfl) (fun W hW => x_move rfl) (by kernel_rfl) (by decide) fun a hF => ?_
        refine d_valg 4 46 45 (j := 3) (want := true) (op := (Go.Op.fieldAddr 24 (Go.Operand.tmp 3) 1)) hF hS (by kernel_rfl) (by kernel_rfl) rfl (fun W hW => x_fa0 fa24_1 rfl) (by kernel_rfl) (by decide) fun a hF => ?_
        refine d_valg 5 47 45 (j := 3) (want := true) (op := (Go.Op.load 3 (Go.Operand.tmp 46))) hF hS (by kernel_rfl) (by kernel_rfl) rfl (fun W hW => x_load rfl (m_load flat3 ((m3_d.k2 hW (by omega)).cell (j := 1) rfl))) (by kernel_rfl) (by decide) fun a hF => ?_
        refine d_valg 6 48 45 (j := 3) (want := true) (op := (Go.Op.binOp Go.BinOp.lss 3 (Go.Operand.tmp 47) (Go.Operand.const (Go.Value.int Go.IntKind.i64 0)) 3)) hF hS (by kernel_rfl) (by kernel_rfl) rfl (fun W hW => x_lss (b := true) (decide_eq_true (by omega)) rfl rfl) (by kernel_rfl) (by decide) fun a hF => ?_
        refine d_valg 7 49 45 (j := 3) (want := true) (op := (Go.Op.move (Go.Operand.tmp 48))) hF hS (by kernel_rfl) (by kernel_rfl) rfl (fun W hW => x_move rfl) (by kernel_rfl) (by decide) fun a hF => ?_
        refine d_skip 8 50 49 (j := 7) (want := false) (op := (Go.Op.fieldAddr 24 (Go.Operand.tmp 3) 1)) hF hS (by kernel_rfl) (by kernel_rfl) rfl (by kernel_rfl) (by decide) fun a hF => ?_
        refine d_skip 9 51 49 (j := 7) (want := false) (op := (Go.Op.load 3 (Go.Operand.tmp 50))) hF hS (by kernel_rfl) (by kernel_rfl) rfl (by kernel_rfl) (by decide) fun a hF => ?_
        refine d_skip 10 52 49 (j := 7) (want := false) (op := (Go.Op.move (Go.Operand.tmp 2))) hF hS (by kernel_rfl) (by kernel_rfl) rfl (by kernel_rfl) (by decide) fun a hF => ?_
        refine d_skip 11 53 49 (j := 7) (want := false) (op := (Go.Op.nilCheck (Go.Operand.tmp 52))) hF hS (by kernel_rfl) (by kernel_rfl) rfl (by kernel_rfl) (by decide) fun a hF => ?_
        refine d_skip 12 54 49 (j := 7) (want := false) (op := (Go.Op.fieldAddr 135 (Go.Operand.tmp 53) 3)) hF hS (by kernel_rfl) (by kernel_rfl) rfl (by kernel_rfl) (by decide) fun a hF => ?_
        refine d_skip 13 55 49 (j := 7) (want := false) (op := (Go.Op.load 3 (Go.Operand.tmp 54))) hF hS (by kernel_rfl) (by kernel_rfl) rfl (by kernel_rfl) (by decide) fun a hF => ?_
        refine d_skip 14 56 49 (j := 7) (want := false) (op := (Go.Op.binOp Go.BinOp.geq 3 (Go.Operand.tmp 51) (Go.Operand.tmp 55) 3)) hF hS (by kernel_rfl) (by kernel_rfl) rfl (by kernel_rfl) (by decide) fun a hF => ?_
        refine d_valg 15 57 45 (j := 3) (want := true) (op := (Go.Op.pick (Go.Operand.tmp 49) (Go.Operand.const (Go.Value.bool true)) (Go.Operand.tmp 56))) hF hS (by kernel_rfl) (by kernel_rfl) rfl (fun W hW => x_pick (b := true) rfl rfl) (by kernel_rfl) (by decide) fun a hF => ?_
        refine d_val 16 58 (op := (Go.Op.pick (Go.Operand.tmp 45) (Go.Operand.tmp 57) (Go.Operand.const (Go.Value.bool false)))) hF hS (by kernel_rfl) (fun W hW => x_pick (b := true) rfl rfl) (by kernel_rfl) (by decide) fun a hF => ?_
        refine d_end (by kernel_rfl) (hK19 _ _ ?_)
        refine wp_if hF rfl ?_
        refine wp_rs fun K20 hK20 => ?_
        refine s_val hF (x_assign rfl) (by decide) fun a hF => ?_
        refine s_end (hK20 _ _ ?_)
        refine wp_ret (then_ret (res_slot hF rfl rfl ⟨_, rfl, ⟨int_of (chk_ten (by omega) hkl hnb (by omega)).symm, fun h => absurd ((chk_ten (by omega) hkl hnb (by omega)).symm.trans h) (by decide)⟩, hK⟩))
      · skip
        refine dk2_seq (w20.heap.size) (w20.heap.size) (ops := regOps Try.f122 6) (N := 17) (by kernel_rfl) wide_orders (by kernel_rfl) fun w24 hw24 B25 hS K21 hK21 => ?_
        have zw24 : w24.heap.size = w20.heap.size := by rw [hw24]
        have sB25 := B25.size
        have hB := hB.trans (B25.mono hB.size)
        have hK := hK.below B25
        have mg := mg.old B25
        have m3 := m3.old B25
        have mg_d := mg
        have m3_d := m3
        have hB_d := hB
        have hK_d := hK
        refine d_val 0 42 (op := (Go.Op.fieldAddr 24 (Go.Operand.tmp 3) 0)) hF hS (by kernel_rfl) (fun W hW => x_fa0 fa24_0 rfl) (by kernel_rfl) (by decide) fun a hF => ?_
        refine d_val 1 43 (op := (Go.Op.load 3 (Go.Operand.tmp 42))) hF hS (by kernel_rfl) (fun W hW => x_load rfl (m_load flat3 ((m3_d.k2 hW (by omega)).cell (j := 0) rfl))) (by kernel_rfl) (by decide) fun a hF => ?_
        refine d_val 2 44 (op := (Go.Op.binOp Go.BinOp.eql 3 (Go.Operand.tmp 43) (Go.Operand.const (Go.Value.int Go.IntKind.i64 2)) 3)) hF hS (by kernel_rfl) (fun W hW => x_eql (b := true) (decide_eq_true (by omega)) rfl rfl) (by kernel_rfl) (by decide) fun a hF => ?_
        refine d_val 3 45 (op := (Go.Op.move (Go.Operand.tmp 44))) hF hS (by kernel_rfl) (fun W hW => x_move rfl) (by kernel_rfl) (by decide) fun a hF => ?_
        refine d_valg 4 46 45 (j := 3) (want := true) (op := (Go.Op.fieldAddr 24 (Go.Operand.tmp 3) 1)) hF hS (by kernel_rfl) (by kernel_rfl) rfl (fun W hW => x_fa0 fa24_1 rfl) (by kernel_rfl) (by decide) fun a hF => ?_
        refine d_valg 5 47 45 (j := 3) (want := true) (op := (Go.Op.load 3 (Go.Operand.tmp 46))) hF hS (by kernel_rfl) (by kernel_rfl) rfl (fun W hW => x_load rfl (m_load flat3 ((m3_d.k2 hW (by omega)).cell (j := 1) rfl))) (by kernel_rfl) (by decide) fun a hF => ?_
        refine d_valg 6 48 45 (j := 3) (want := true) (op := (Go.Op.binOp Go.BinOp.lss 3 (Go.Operand.tmp 47) (Go.Operand.const (Go.Value.int Go.IntKind.i64 0)) 3)) hF hS (by kernel_rfl) (by kernel_rfl) rfl (fun W hW => x_lss (b := false) (decide_eq_false (by omega)) rfl rfl) (by kernel_rfl) (by decide) fun a hF => ?_
        refine d_valg 7 49 45 (j := 3) (want := true) (op := (Go.Op.move (Go.Operand.tmp 48))) hF hS (by kernel_rfl) (by kernel_rfl) rfl (fun W hW => x_move rfl) (by kernel_rfl) (by decide) fun a hF => ?_
        refine d_valg 8 50 49 (j := 7) (want := false) (op := (Go.Op.fieldAddr 24 (Go.Operand.tmp 3) 1)) hF hS (by kernel_rfl) (by kernel_rfl) rfl (fun W hW => x_fa0 fa24_1 rfl) (by kernel_rfl) (by decide) fun a hF => ?_
        refine d_valg 9 51 49 (j := 7) (want := false) (op := (Go.Op.load 3 (Go.Operand.tmp 50))) hF hS (by kernel_rfl) (by kernel_rfl) rfl (fun W hW => x_load rfl (m_load flat3 ((m3_d.k2 hW (by omega)).cell (j := 1) rfl))) (by kernel_rfl) (by decide) fun a hF => ?_
        refine d_valg 10 52 49 (j := 7) (want := false) (op := (Go.Op.move (Go.Operand.tmp 2))) hF hS (by kernel_rfl) (by kernel_rfl) rfl (fun W hW => x_move rfl) (by kernel_rfl) (by decide) fun a hF => ?_
        refine d_valg 11 53 49 (j := 7) (want := false) (op := (Go.Op.nilCheck (Go.Operand.tmp 52))) hF hS (by kernel_rfl) (by kernel_rfl) rfl (fun W hW => x_nil rfl) (by kernel_rfl) (by decide) fun a hF => ?_
        refine d_valg 12 54 49 (j := 7) (want := false) (op := (Go.Op.fieldAddr 135 (Go.Operand.tmp 53) 3)) hF hS (by kernel_rfl) (by kernel_rfl) rfl (fun W hW => x_fa0 fa54_3 rfl) (by kernel_rfl) (by decide) fun a hF => ?_
        refine d_valg 13 55 49 (j := 7) (want := false) (op := (Go.Op.load 3 (Go.Operand.tmp 54))) hF hS (by kernel_rfl) (by kernel_rfl) rfl (fun W hW => x_load rfl (m_load flat3 ((mg_d.k2 hW (by omega)).cell (j := 3) rfl))) (by kernel_rfl) (by decide) fun a hF => ?_
        refine d_valg 14 56 49 (j := 7) (want := false) (op := (Go.Op.binOp Go.BinOp.geq 3 (Go.Operand.tmp 51) (Go.Operand.tmp 55) 3)) hF hS (by kernel_rfl) (by kernel_rfl) rfl (fun W hW => x_geq (b := true) (decide_eq_true (by omega)) rfl rfl) (by kernel_rfl) (by decide) fun a hF => ?_
        refine d_valg 15 57 45 (j := 3) (want := true) (op := (Go.Op.pick (Go.Operand.tmp 49) (Go.Operand.const (Go.Value.bool true)) (Go.Operand.tmp 56))) hF hS (by kernel_rfl) (by kernel_rfl) rfl (fun W hW => x_pick (b := false) rfl rfl) (by kernel_rfl) (by decide) fun a hF => ?_
        refine d_val 16 58 (op := (Go.Op.pick (Go.Operand.tmp 45) (Go.Operand.tmp 57) (Go.Operand.const (Go.Value.bool false)))) hF hS (by kernel_rfl) (fun W hW => x_pick (b := true) rfl rfl) (by kernel_rfl) (by decide) fun a hF => ?_
        refine d_end (by kernel_rfl) (hK21 _ _ ?_)
        refine wp_if hF rfl ?_
        refine wp_rs fun K22 hK22 => ?_
        refine s_val hF (x_assign rfl) (by decide) fun a hF => ?_
        refine s_end (hK22 _ _ ?_)
        refine wp_ret (then_ret (res_slot hF rfl rfl ⟨_, rfl, ⟨int_of (chk_ten (by omega) hkl hnb (by omega)).symm, fun h => absurd ((chk_ten (by omega) hkl hnb (by omega)).symm.trans h) (by decide)⟩, hK⟩))
      · have hnd := nodeE_iff.2 ⟨hp.1, hp.2, hkl, hnb, (by omega : ¬ (k = 2 ∧ (n < 0 ∨ vars ≤ n)))⟩
        refine dk2_seq (w20.heap.size) (w20.heap.size) (ops := regOps Try.f122 6) (N := 17) (by kernel_rfl) wide_orders (by kernel_rfl) fun w26 hw26 B27 hS K23 hK23 => ?_
        have zw26 : w26.heap.size = w20.heap.size := by rw [hw26]
        have sB27 := B27.size
        have hB := hB.trans (B27.mono hB.size)
        have hK := hK.below B27
        have mg := mg.old B27
        have m3 := m3.old B27
        have mg_d := mg
        have m3_d := m3
        have hB_d := hB
        have hK_d := hK
        refine d_val 0 42 (op := (Go.Op.fieldAddr 24 (Go.Operand.tmp 3) 0)) hF hS (by kernel_rfl) (fun W hW => x_fa0 fa24_0 rfl) (by kernel_rfl) (by decide) fun a hF => ?_
        refine d_val 1 43 (op := (Go.Op.load 3 (Go.Operand.tmp 42))) hF hS (by kernel_rfl) (fun W hW => x_load rfl (m_load flat3 ((m3_d.k2 hW (by omega)).cell (j := 0) rfl))) (by kernel_rfl) (by decide) fun a hF => ?_
        refine d_val 2 44 (op := (Go.Op.binOp Go.BinOp.eql 3 (Go.Operand.tmp 43) (Go.Operand.const (Go.Value.int Go.IntKind.i64 2)) 3)) hF hS (by kernel_rfl) (fun W hW => x_eql (b := true) (decide_eq_true (by omega)) rfl rfl) (by kernel_rfl) (by decide) fun a hF => ?_
        refine d_val 3 45 (op := (Go.Op.move (Go.Operand.tmp 44))) hF hS (by kernel_rfl) (fun W hW => x_move rfl) (by kernel_rfl) (by decide) fun a hF => ?_
        refine d_valg 4 46 45 (j := 3) (want := true) (op := (Go.Op.fieldAddr 24 (Go.Operand.tmp 3) 1)) hF hS (by kernel_rfl) (by kernel_rfl) rfl (fun W hW => x_fa0 fa24_1 rfl) (by kernel_rfl) (by decide) fun a hF => ?_
        refine d_valg 5 47 45 (j := 3) (want := true) (op := (Go.Op.load 3 (Go.Operand.tmp 46))) hF hS (by kernel_rfl) (by kernel_rfl) rfl (fun W hW => x_load rfl (m_load flat3 ((m3_d.k2 hW (by omega)).cell (j := 1) rfl))) (by kernel_rfl) (by decide) fun a hF => ?_
        refine d_valg 6 48 45 (j := 3) (want := true) (op := (Go.Op.binOp Go.BinOp.lss 3 (Go.Operand.tmp 47) (Go.Operand.const (Go.Value.int Go.IntKind.i64 0)) 3)) hF hS (by kernel_rfl) (by kernel_rfl) rfl (fun W hW => x_lss (b := false) (decide_eq_false (by omega)) rfl rfl) (by kernel_rfl) (by decide) fun a hF => ?_
        refine d_valg 7 49 45 (j := 3) (want := true) (op := (Go.Op.move (Go.Operand.tmp 48))) hF hS (by kernel_rfl) (by kernel_rfl) rfl (fun W hW => x_move rfl) (by kernel_rfl) (by decide) fun a hF => ?_
        refine d_valg 8 50 49 (j := 7) (want := false) (op := (Go.Op.fieldAddr 24 (Go.Operand.tmp 3) 1)) hF hS (by kernel_rfl) (by kernel_rfl) rfl (fun W hW => x_fa0 fa24_1 rfl) (by kernel_rfl) (by decide) fun a hF => ?_
        refine d_valg 9 51 49 (j := 7) (want := false) (op := (Go.Op.load 3 (Go.Operand.tmp 50))) hF hS (by kernel_rfl) (by kernel_rfl) rfl (fun W hW => x_load rfl (m_load flat3 ((m3_d.k2 hW (by omega)).cell (j := 1) rfl))) (by kernel_rfl) (by decide) fun a hF => ?_
        refine d_valg 10 52 49 (j := 7) (want := false) (op := (Go.Op.move (Go.Operand.tmp 2))) hF hS (by kernel_rfl) (by kernel_rfl) rfl (fun W hW => x_move rfl) (by kernel_rfl) (by decide) fun a hF => ?_
        refine d_valg 11 53 49 (j := 7) (want := false) (op := (Go.Op.nilCheck (Go.Operand.tmp 52))) hF hS (by kernel_rfl) (by kernel_rfl) rfl (fun W hW => x_nil rfl) (by kernel_rfl) (by decide) fun a hF => ?_
        refine d_valg 12 54 49 (j := 7) (want := false) (op := (Go.Op.fieldAddr 135 (Go.Operand.tmp 53) 3)) hF hS (by kernel_rfl) (by kernel_rfl) rfl (fun W hW => x_fa0 fa54_3 rfl) (by kernel_rfl) (by decide) fun a hF => ?_
        refine d_valg 13 55 49 (j := 7) (want := false) (op := (Go.Op.load 3 (Go.Operand.tmp 54))) hF hS (by kernel_rfl) (by kernel_rfl) rfl (fun W hW => x_load rfl (m_load flat3 ((mg_d.k2 hW (by omega)).cell (j := 3) rfl))) (by kernel_rfl) (by decide) fun a hF => ?_
        refine d_valg 14 56 49 (j := 7) (want := false) (op := (Go.Op.binOp Go.BinOp.geq 3 (Go.Operand.tmp 51) (Go.Operand.tmp 55) 3)) hF hS (by kernel_rfl) (by kernel_rfl) rfl (fun W hW => x_geq (b := false) (decide_eq_false (by omega)) rfl rfl) (by kernel_rfl) (by decide) fun a hF => ?_
        refine d_valg 15 57 45 (j := 3) (want := true) (op := (Go.Op.pick (Go.Operand.tmp 49) (Go.Operand.const (Go.Value.bool true)) (Go.Operand.tmp 56))) hF hS (by kernel_rfl) (by kernel_rfl) rfl (fun W hW => x_pick (b := false) rfl rfl) (by kernel_rfl) (by decide) fun a hF => ?_
        refine d_val 16 58 (op := (Go.Op.pick (Go.Operand.tmp 45) (Go.Operand.tmp 57) (Go.Operand.const (Go.Value.bool false)))) hF hS (by kernel_rfl) (fun W hW => x_pick (b := true) rfl rfl) (by kernel_rfl) (by decide) fun a hF => ?_
        refine d_end (by kernel_rfl) (hK23 _ _ ?_)
        refine wp_if hF rfl ?_
        refine wp_skip (hK17 _ _ ?_)
        refine wp_seq_k fun K24 hK24 => ?_
        refine wp_rs fun K25 hK25 => ?_
        refine s_val hF (x_fa0 fa24_2 rfl) (by decide) fun a hF => ?_
        refine s_val hF (x_load rfl (m_load flat22 (m3.cell (j := 2) rfl))) (by decide) fun a hF => ?_
        refine s_val hF (x_len Try.underlying22 rfl) (by decide) fun a hF => ?_
        refine s_val hF (x_move rfl) (by decide) fun a hF => ?_
        refine s_end (hK25 _ _ ?_)
        refine wp_block ?_
        refine wp_up xs.length (fun i a w => ∃ ri : Nat, ri ≤ 1000 ∧ chks D top vars (d + 1) (r - 1) ls = chks D top vars (d + 1) ri (ls.drop i) ∧ Blk w g 135 [.int .i64 D, .int .i64 (ri : Int), .int .i64 top, .int .i64 vars] ∧ Below w0.heap.size w0 w ∧ Ktw g g w1 w ∧ Fs 75 a [(62, .int .i64 (i : Int)), (61, .int .i64 (xs.length : Int)), (60, .slice av xs.length cv), (1, .int .i64 d), (2, .pointer (some ⟨g, 0, none⟩))]) ⟨r - 1, by omega, rfl, mg, hB, hK, hF.sub _ rfl⟩ ?_
        clear hF hB hK mg
        rintro i a w hi ⟨ri, hri, hck, mg, hB, hK, hF⟩ K' hK'
        have sB := hB.size
        have hgl := mg.lt
        have sK := hK.size
        have hle := kids_le hkl
        refine wp_rs fun K26 hK26 => ?_
        refine s_val hF (x_lss rfl rfl rfl) (by decide) fun a hF => ?_
        refine s_end (hK26 _ _ ?_)
        refine wp_seq_k fun K27 hK27 => ?_
        refine wp_iff hF rfl (fun hc63 => ?_) (fun hc63 => ?_)
        · obtain ⟨b, off, c, y, hve, hy, hrow⟩ := rd_row3 hR (i := i) (by omega)
          cases hve
          obtain ⟨l, hlk⟩ : ∃ l, ls[i]? = some l := ⟨_, List.getElem?_eq_getElem (by omega)⟩
          have ihy := ih i y l hy hlk
          have h1y := (hk i y l hy hlk).one1
          rw [drop_at hlk] at hck
          refine wp_skip (hK27 _ _ ?_)
          refine wp_seq_k fun K28 hK28 => ?_
          refine wp_block ?_
          refine wp_rs fun K29 hK29 => ?_
          refine s_val hF (x_ixa rfl rfl (m_ixsK i Try.underlying22 el22.size rfl (by omega))) (by decide) fun a hF => ?_
          refine s_val hF (x_ldA wide24 (hrow _ hB) rfl rfl) (by decide) fun a hF => ?_
          refine s_alloc hF (by decide) zero24 fun w28 b8 a eb8 m8 B29 zb8 hF => ?_
          have sB29 := B29.size
          have hB := hB.trans (B29.mono hB.size)
          have hK := hK.below B29
          have mg := mg.old B29
          refine s_putW hF rfl rfl (size_wide wide24) m8 rfl (one_lc h1y) fun w30 m8 o31 => ?_
          have so31 := o31.size
          have hB := hB.trans (o31.below (by omega))
          have hK := hK.only o31 (by omega)
          have mg := mg.only o31 (by omega)
          refine s_end (hK29 _ _ ?_)
          refine wp_rs fun K30 hK30 => ?_
          refine s_val hF (x_ldW wide24 m8 rfl rfl) (by decide) fun a hF => ?_
          refine s_val hF (x_move rfl) (by decide) fun a hF => ?_
          refine s_val hF (x_add (by omega) (by omega) rfl rfl) (by decide) fun a hF => ?_
          refine s_val hF (x_move rfl) (by decide) fun a hF => ?_
          refine s_call (R := fun u w' => (u = .int .i64 (chk D top vars (d + 1) ri l).1 ∧ ((chk D top vars (d + 1) ri l).1 = 0 → Blk w' g 135 [.int .i64 D, .int .i64 ((chk D top vars (d + 1) ri l).2 : Int), .int .i64 top, .int .i64 vars])) ∧ Ktw g g w30 w') hF [_, _, _] (enters_of Try.func122 (by kernel_rfl) rfl) rfl (by decide) (ihy (d + 1) ri w30 (by omega) (by omega) hri hB mg) ?_
          rintro _ w32 a ⟨⟨rfl, hmg⟩, k33⟩ hF
          have sk33 := k33.size
          have hB := k33.under hB (by omega)
          have hK := hK.trans k33 (by omega)
          have m8 := m8.k2 k33 (by omega)
          refine s_val hF (x_assign rfl) (by decide) fun a hF => ?_
          refine s_end (hK30 _ _ ?_)
          refine wp_rs fun K31 hK31 => ?_
          refine s_val hF (x_move rfl) (by decide) fun a hF => ?_
          refine s_val hF (x_neq rfl rfl rfl) (by decide) fun a hF => ?_
          refine s_end (hK31 _ _ ?_)
          refine wp_iff hF rfl (fun hc72 => ?_) (fun hc72 => ?_)
          · refine wp_rs fun K32 hK32 => ?_
            refine s_val hF (x_move rfl) (by decide) fun a hF => ?_
            refine s_val hF (x_assign rfl) (by decide) fun a hF => ?_
            refine s_end (hK32 _ _ ?_)
            refine wp_ret (inb_ret (then_ret (then_ret (inb_ret (then_ret (res_slot hF rfl rfl ⟨_, rfl, ⟨int_of (by rw [chk_in hnd, hck, chks_out hc72]), fun h => absurd (by rw [chk_in hnd, hck, chks_out hc72] at h; exact h) hc72⟩, hK⟩))))))
          · have hc0 : (chk D top vars (d + 1) ri l).1 = 0 := by omega
            have mg := hmg hc0
            refine wp_skip (hK28 _ _ ?_)
            refine wp_region_lit ?_
            refine s_val hF (x_addn (i + 1) (by omega) (by omega) rfl rfl) (by decide) fun a hF => ?_
            refine s_val hF (x_move rfl) (by decide) fun a hF => ?_
            refine s_end (hK' _ _ (by omega) ⟨(chk D top vars (d + 1) ri l).2, Nat.le_trans (chk_le _ _ _ _ _ _) hri, by rw [hck, chks_in hc0], mg, hB, hK, hF.sub _ rfl⟩)
        · refine wp_exit (hK24 _ _ ?_)
          refine wp_rs fun K33 hK33 => ?_
          refine s_val hF (x_assign rfl) (by decide) fun a hF => ?_
          refine s_end (hK33 _ _ ?_)
          have hnil : ls.drop i = [] := List.drop_of_length_le (by omega)
          rw [hnil] at hck
          refine wp_ret (res_slot hF rfl rfl ⟨_, rfl, ⟨int_of (by rw [chk_in hnd, hck]; rfl), fun _ => by rw [chk_in hnd, hck]; exact mg⟩, hK⟩)
      · have hnd := nodeE_iff.2 ⟨hp.1, hp.2, hkl, hnb, (by omega : ¬ (k = 2 ∧ (n < 0 ∨ vars ≤ n)))⟩
        refine dk2_seq (w20.heap.size) (w20.heap.size) (ops := regOps Try.f122 6) (N := 17) (by kernel_rfl) wide_orders (by kernel_rfl) fun w34 hw34 B35 hS K34 hK34 => ?_
        have zw34 : w34.heap.size = w20.heap.size := by rw [hw34]
        have sB35 := B35.size
        have hB := hB.trans (B35.mono hB.size)
        have hK := hK.below B35
        have mg := mg.old B35
        have m3 := m3.old B35
        have mg_d := mg
        have m3_d := m3
        have hB_d := hB
        have hK_d := hK
        refine d_val 0 42 (op := (Go.Op.fieldAddr 24 (Go.Operand.tmp 3) 0)) hF hS (by kernel_rfl) (fun W hW => x_fa0 fa24_0 rfl) (by kernel_rfl) (by decide) fun a hF => ?_
        refine d_val 1 43 (op := (Go.Op.load 3 (Go.Operand.tmp 42))) hF hS (by kernel_rfl) (fun W hW => x_load rfl (m_load flat3 ((m3_d.k2 hW (by omega)).cell (j := 0) rfl))) (by kernel_rfl) (by decide) fun a hF => ?_
        refine d_val 2 44 (op := (Go.Op.binOp Go.BinOp.eql 3 (Go.Operand.tmp 43) (Go.Operand.const (Go.Value.int Go.IntKind.i64 2)) 3)) hF hS (by kernel_rfl) (fun W hW => x_eql (b := false) (decide_eq_false (by omega)) rfl rfl) (by kernel_rfl) (by decide) fun a hF => ?_
        refine d_val 3 45 (op := (Go.Op.move (Go.Operand.tmp 44))) hF hS (by kernel_rfl) (fun W hW => x_move rfl) (by kernel_rfl) (by decide) fun a hF => ?_
        refine d_skip 4 46 45 (j := 3) (want := true) (op := (Go.Op.fieldAddr 24 (Go.Operand.tmp 3) 1)) hF hS (by kernel_rfl) (by kernel_rfl) rfl (by kernel_rfl) (by decide) fun a hF => ?_
        refine d_skip 5 47 45 (j := 3) (want := true) (op := (Go.Op.load 3 (Go.Operand.tmp 46))) hF hS (by kernel_rfl) (by kernel_rfl) rfl (by kernel_rfl) (by decide) fun a hF => ?_
        refine d_skip 6 48 45 (j := 3) (want := true) (op := (Go.Op.binOp Go.BinOp.lss 3 (Go.Operand.tmp 47) (Go.Operand.const (Go.Value.int Go.IntKind.i64 0)) 3)) hF hS (by kernel_rfl) (by kernel_rfl) rfl (by kernel_rfl) (by decide) fun a hF => ?_
        refine d_skip 7 49 45 (j := 3) (want := true) (op := (Go.Op.move (Go.Operand.tmp 48))) hF hS (by kernel_rfl) (by kernel_rfl) rfl (by kernel_rfl) (by decide) fun a hF => ?_
        refine d_skipu 8 50 49 (j := 7) (want := false) (op := (Go.Op.fieldAddr 24 (Go.Operand.tmp 3) 1)) hF hS (by kernel_rfl) (by kernel_rfl) rfl (by kernel_rfl) (by decide) fun a hF => ?_
        refine d_skipu 9 51 49 (j := 7) (want := false) (op := (Go.Op.load 3 (Go.Operand.tmp 50))) hF hS (by kernel_rfl) (by kernel_rfl) rfl (by kernel_rfl) (by decide) fun a hF => ?_
        refine d_skipu 10 52 49 (j := 7) (want := false) (op := (Go.Op.move (Go.Operand.tmp 2))) hF hS (by kernel_rfl) (by kernel_rfl) rfl (by kernel_rfl) (by decide) fun a hF => ?_
        refine d_skipu 11 53 49 (j := 7) (want := false) (op := (Go.Op.nilCheck (Go.Operand.tmp 52))) hF hS (by kernel_rfl) (by kernel_rfl) rfl (by kernel_rfl) (by decide) fun a hF => ?_
        refine d_skipu 12 54 49 (j := 7) (want := false) (op := (Go.Op.fieldAddr 135 (Go.Operand.tmp 53) 3)) hF hS (by kernel_rfl) (by kernel_rfl) rfl (by kernel_rfl) (by decide) fun a hF => ?_
        refine d_skipu 13 55 49 (j := 7) (want := false) (op := (Go.Op.load 3 (Go.Operand.tmp 54))) hF hS (by kernel_rfl) (by kernel_rfl) rfl (by kernel_rfl) (by decide) fun a hF => ?_
        refine d_skipu 14 56 49 (j := 7) (want := false) (op := (Go.Op.binOp Go.BinOp.geq 3 (Go.Operand.tmp 51) (Go.Operand.tmp 55) 3)) hF hS (by kernel_rfl) (by kernel_rfl) rfl (by kernel_rfl) (by decide) fun a hF => ?_
        refine d_skip 15 57 45 (j := 3) (want := true) (op := (Go.Op.pick (Go.Operand.tmp 49) (Go.Operand.const (Go.Value.bool true)) (Go.Operand.tmp 56))) hF hS (by kernel_rfl) (by kernel_rfl) rfl (by kernel_rfl) (by decide) fun a hF => ?_
        refine d_val 16 58 (op := (Go.Op.pick (Go.Operand.tmp 45) (Go.Operand.tmp 57) (Go.Operand.const (Go.Value.bool false)))) hF hS (by kernel_rfl) (fun W hW => x_pick (b := false) rfl rfl) (by kernel_rfl) (by decide) fun a hF => ?_
        refine d_end (by kernel_rfl) (hK34 _ _ ?_)
        refine wp_if hF rfl ?_
        refine wp_skip (hK17 _ _ ?_)
        refine wp_seq_k fun K35 hK35 => ?_
        refine wp_rs fun K36 hK36 => ?_
        refine s_val hF (x_fa0 fa24_2 rfl) (by decide) fun a hF => ?_
        refine s_val hF (x_load rfl (m_load flat22 (m3.cell (j := 2) rfl))) (by decide) fun a hF => ?_
        refine s_val hF (x_len Try.underlying22 rfl) (by decide) fun a hF => ?_
        refine s_val hF (x_move rfl) (by decide) fun a hF => ?_
        refine s_end (hK36 _ _ ?_)
        refine wp_block ?_
        refine wp_up xs.length (fun i a w => ∃ ri : Nat, ri ≤ 1000 ∧ chks D top vars (d + 1) (r - 1) ls = chks D top vars (d + 1) ri (ls.drop i) ∧ Blk w g 135 [.int .i64 D, .int .i64 (ri : Int), .int .i64 top, .int .i64 vars] ∧ Below w0.heap.size w0 w ∧ Ktw g g w1 w ∧ Fs 75 a [(62, .int .i64 (i : Int)), (61, .int .i64 (xs.length : Int)), (60, .slice av xs.length cv), (1, .int .i64 d), (2, .pointer (some ⟨g, 0, none⟩))]) ⟨r - 1, by omega, rfl, mg, hB, hK, hF.sub _ rfl⟩ ?_
        clear hF hB hK mg
        rintro i a w hi ⟨ri, hri, hck, mg, hB, hK, hF⟩ K' hK'
        have sB := hB.size
        have hgl := mg.lt
        have sK := hK.size
        have hle := kids_le hkl
        refine wp_rs fun K37 hK37 => ?_
        refine s_val hF (x_lss rfl rfl rfl) (by decide) fun a hF => ?_
        refine s_end (hK37 _ _ ?_)
        refine wp_seq_k fun K38 hK38 => ?_
        refine wp_iff hF rfl (fun hc63 => ?_) (fun hc63 => ?_)
        · obtain ⟨b, off, c, y, hve, hy, hrow⟩ := rd_row3 hR (i := i) (by omega)
          cases hve
          obtain ⟨l, hlk⟩ : ∃ l, ls[i]? = some l := ⟨_, List.getElem?_eq_getElem (by omega)⟩
          have ihy := ih i y l hy hlk
          have h1y := (hk i y l hy hlk).one1
          rw [drop_at hlk] at hck
          refine wp_skip (hK38 _ _ ?_)
          refine wp_seq_k fun K39 hK39 => ?_
          refine wp_block ?_
          refine wp_rs fun K40 hK40 => ?_
          refine s_val hF (x_ixa rfl rfl (m_ixsK i Try.underlying22 el22.size rfl (by omega))) (by decide) fun a hF => ?_
          refine s_val hF (x_ldA wide24 (hrow _ hB) rfl rfl) (by decide) fun a hF => ?_
          refine s_alloc hF (by decide) zero24 fun w36 b8 a eb8 m8 B37 zb8 hF => ?_
          have sB37 := B37.size
          have hB := hB.trans (B37.mono hB.size)
          have hK := hK.below B37
          have mg := mg.old B37
          refine s_putW hF rfl rfl (size_wide wide24) m8 rfl (one_lc h1y) fun w38 m8 o39 => ?_
          have so39 := o39.size
          have hB := hB.trans (o39.below (by omega))
          have hK := hK.only o39 (by omega)
          have mg := mg.only o39 (by omega)
          refine s_end (hK40 _ _ ?_)
          refine wp_rs fun K41 hK41 => ?_
          refine s_val hF (x_ldW wide24 m8 rfl rfl) (by decide) fun a hF => ?_
          refine s_val hF (x_move rfl) (by decide) fun a hF => ?_
          refine s_val hF (x_add (by omega) (by omega) rfl rfl) (by decide) fun a hF => ?_
          refine s_val hF (x_move rfl) (by decide) fun a hF => ?_
          refine s_call (R := fun u w' => (u = .int .i64 (chk D top vars (d + 1) ri l).1 ∧ ((chk D top vars (d + 1) ri l).1 = 0 → Blk w' g 135 [.int .i64 D, .int .i64 ((chk D top vars (d + 1) ri l).2 : Int), .int .i64 top, .int .i64 vars])) ∧ Ktw g g w38 w') hF [_, _, _] (enters_of Try.func122 (by kernel_rfl) rfl) rfl (by decide) (ihy (d + 1) ri w38 (by omega) (by omega) hri hB mg) ?_
          rintro _ w40 a ⟨⟨rfl, hmg⟩, k41⟩ hF
          have sk41 := k41.size
          have hB := k41.under hB (by omega)
          have hK := hK.trans k41 (by omega)
          have m8 := m8.k2 k41 (by omega)
          refine s_val hF (x_assign rfl) (by decide) fun a hF => ?_
          refine s_end (hK41 _ _ ?_)
          refine wp_rs fun K42 hK42 => ?_
          refine s_val hF (x_move rfl) (by decide) fun a hF => ?_
          refine s_val hF (x_neq rfl rfl rfl) (by decide) fun a hF => ?_
          refine s_end (hK42 _ _ ?_)
          refine wp_iff hF rfl (fun hc72 => ?_) (fun hc72 => ?_)
          · refine wp_rs fun K43 hK43 => ?_
            refine s_val hF (x_move rfl) (by decide) fun a hF => ?_
            refine s_val hF (x_assign rfl) (by decide) fun a hF => ?_
            refine s_end (hK43 _ _ ?_)
            refine wp_ret (inb_ret (then_ret (then_ret (inb_ret (then_ret (res_slot hF rfl rfl ⟨_, rfl, ⟨int_of (by rw [chk_in hnd, hck, chks_out hc72]), fun h => absurd (by rw [chk_in hnd, hck, chks_out hc72] at h; exact h) hc72⟩, hK⟩))))))
          · have hc0 : (chk D top vars (d + 1) ri l).1 = 0 := by omega
            have mg := hmg hc0
            refine wp_skip (hK39 _ _ ?_)
            refine wp_region_lit ?_
            refine s_val hF (x_addn (i + 1) (by omega) (by omega) rfl rfl) (by decide) fun a hF => ?_
            refine s_val hF (x_move rfl) (by decide) fun a hF => ?_
            refine s_end (hK' _ _ (by omega) ⟨(chk D top vars (d + 1) ri l).2, Nat.le_trans (chk_le _ _ _ _ _ _) hri, by rw [hck, chks_in hc0], mg, hB, hK, hF.sub _ rfl⟩)
        · refine wp_exit (hK35 _ _ ?_)
          refine wp_rs fun K44 hK44 => ?_
          refine s_val hF (x_assign rfl) (by decide) fun a hF => ?_
          refine s_end (hK44 _ _ ?_)
          have hnil : ls.drop i = [] := List.drop_of_length_le (by omega)
          rw [hnil] at hck
          refine wp_ret (res_slot hF rfl rfl ⟨_, rfl, ⟨int_of (by rw [chk_in hnd, hck]; rfl), fun _ => by rw [chk_in hnd, hck]; exact mg⟩, hK⟩)

set_option maxRecDepth 100000 in
set_option maxHeartbeats 1600000 in
theorem isSound49 (x : C3) (l : Lv) (w0 : World) (hL : RL w0 x l) : Calls Try.prog 123 #[lv x] w0 fun e w' => e = .returned (.bool (decide (sndL l))) ∧ Below w0.heap.size w0 w' := by
  have hB := Below.refl w0.heap.size w0
  have sB := hB.size
  refine calls_fs 8 [(0, lv x)] Try.func123 rfl rfl rfl rfl rfl fun a hF => ?_
  refine wp_rs fun K1 hK1 => ?_
  refine s_box (lc x) hF (by decide) rfl rfl fun w2 b1 a eb1 m1 B3 zb1 hF => ?_
  have sB3 := B3.size
  have hB := hB.trans (B3.mono hB.size)
  refine s_val hF (x_assign rfl) (by decide) fun a hF => ?_
  refine s_end (hK1 _ _ ?_)
  refine wp_rs fun K2 hK2 => ?_
  refine s_val hF (x_ldW wide24 m1 rfl rfl) (by decide) fun a hF => ?_
  refine s_val hF (x_build (vs := [(0, _), (1, _), (2, _), (3, _)]) rfl (b54_0123 _ _ _ _ _)) (by decide) fun a hF => ?_
  refine s_box ([.int .i64 256, .int .i64 1000, .int .i64 1099511627776, .int .i64 1001]) hF (by decide) rfl rfl fun w4 b5 a eb5 m5 B5 zb5 hF => ?_
  have sB5 := B5.size
  have hB := hB.trans (B5.mono hB.size)
  have m1 := m1.old B5
  refine s_call (R := fun u w' => (u = .int .i64 (chk 256 1099511627776 1001 1 1000 l).1 ∧ ((chk 256 1099511627776 1001 1 1000 l).1 = 0 → Blk w' b5 135 [.int .i64 256, .int .i64 ((chk 256 1099511627776 1001 1 1000 l).2 : Int), .int .i64 1099511627776, .int .i64 1001])) ∧ Ktw b5 b5 w4 w') hF [_, _, _] (enters_of Try.func122 (by kernel_rfl) rfl) rfl (by decide) (check34 256 1099511627776 1001 (by decide) w0 b5 (by omega) x l hL 1 1000 w4 (by decide) (by decide) (by decide) hB m5) ?_
  rintro _ w6 a ⟨⟨rfl, _⟩, k7⟩ hF
  have sk7 := k7.size
  have hB := k7.under hB (by omega)
  have m1 := m1.k2 k7 (by omega)
  refine s_val hF (x_eql (b := decide (sndL l)) rfl rfl rfl) (by decide) fun a hF => ?_
  refine s_val hF (x_assign rfl) (by decide) fun a hF => ?_
  refine s_end (hK2 _ _ ?_)
  refine wp_ret (res_slot hF rfl rfl ⟨rfl, hB⟩)

set_option maxRecDepth 100000 in
set_option maxHeartbeats 1600000 in
theorem rmay35 (vars : Int) (w0 : World) (g : Nat) (hg : w0.heap.size ≤ g) : ∀ (x : C3) (l : Lv), RL w0 x l → ∀ (d : Int) (r : Nat) (w1 : World), 1 ≤ d → d ≤ 300 → r ≤ 100 → Below w0.heap.size w0 w1 → Blk w1 g 3 [.int .i64 (100 - (r : Int))] →
    Calls Try.prog 82 #[lv x, .int .i64 vars, .int .i64 d, .pointer (some ⟨g, 0, none⟩)] w1 fun e w' => ∃ v, e = .returned v ∧ (v = .int .i64 (chk 32 1048576 vars d r l).1 ∧ ((chk 32 1048576 vars d r l).1 = 0 → Blk w' g 3 [.int .i64 (100 - ((chk 32 1048576 vars d r l).2 : Int))])) ∧ Ktw g g w1 w' := by
  intro x l h
  induction h with
  | @mk k n v xs ls hR hl hk ih =>
  intro d r w1 hd1 hd2 hr hB mg
  obtain ⟨av, cv, rfl, _⟩ := hR.form
  have hK := Ktw.refl g g w1
  have sB := hB.size
  have hgl := mg.lt
  refine calls_fs 101 [(0, .agg [.int .i64 k, .int .i64 n, .slice av xs.length cv].toArray), (1, .int .i64 vars), (2, .int .i64 d), (3, .pointer (some ⟨g, 0, none⟩))] Try.func82 rfl rfl rfl rfl rfl fun a hF => ?_
  refine wp_rs fun K1 hK1 => ?_
  refine s_box ([.int .i64 k, .int .i64 n, .slice av xs.length cv]) hF (by decide) rfl rfl fun w2 b4 a eb4 m4 B3 zb4 hF => ?_
  have sB3 := B3.size
  have hB := hB.trans (B3.mono hB.size)
  have hK := hK.below B3
  have mg := mg.old B3
  refine s_val hF (x_assign rfl) (by decide) fun a hF => ?_
  refine s_end (hK1 _ _ ?_)
  refine wp_rs fun K2 hK2 => ?_
  refine s_val hF (x_move rfl) (by decide) fun a hF => ?_
  refine s_val hF (x_nil rfl) (by decide) fun a hF => ?_
  refine s_val hF (x_load rfl (m_load flat3 (mg.cell (j := 0) rfl))) (by decide) fun a hF => ?_
  refine s_val hF (x_add (by omega) (by omega) rfl rfl) (by decide) fun a hF => ?_
  refine s_val hF (x_nil rfl) (by decide) fun a hF => ?_
  refine s_put hF rfl rfl flat3 mg (by simp) rfl fun w4 mg o5 => ?_
  have so5 := o5.size
  have hB := hB.trans (o5.below (by omega))
  have hK := hK.only o5 (by omega)
  have m4 := m4.only o5 (by omega)
  refine s_end (hK2 _ _ ?_)
  refine wp_seq_k fun K3 hK3 => ?_
  refine wp_block ?_
  rcases (show 32 < d ∨ (d ≤ 32 ∧ r = 0) ∨ (d ≤ 32 ∧ r ≠ 0) by omega) with hp | hp | hp
  · skip
    refine wp_rs fun K5 hK5 => ?_
    refine s_val hF (x_move rfl) (by decide) fun a hF => ?_
    refine s_val hF (x_gtr (b := true) (decide_eq_true (by omega)) rfl rfl) (by decide) fun a hF => ?_
    refine s_val hF (x_move rfl) (by decide) fun a hF => ?_
    refine s_grdn 20 hF rfl rfl (by decide) fun a hF => ?_
    refine s_grdn 20 hF rfl rfl (by decide) fun a hF => ?_
    refine s_grdn 20 hF rfl rfl (by decide) fun a hF => ?_
    refine s_grdn 20 hF rfl rfl (by decide) fun a hF => ?_
    refine s_val hF (x_pick (b := true) rfl rfl) (by decide) fun a hF => ?_
    refine s_val hF (x_assign rfl) (by decide) fun a hF => ?_
    refine s_end (hK5 _ _ ?_)
    refine wp_if hF rfl ?_
    refine wp_rs fun K6 hK6 => ?_
    refine s_val hF (x_assign rfl) (by decide) fun a hF => ?_
    refine s_end (hK6 _ _ ?_)
    refine wp_ret (inb_ret (then_ret (res_slot hF rfl rfl ⟨_, rfl, ⟨int_of (chk_two (by omega)).symm, fun h => absurd ((chk_two (by omega)).symm.trans h) (by decide)⟩, hK⟩)))
  · skip
    refine wp_rs fun K7 hK7 => ?_
    refine s_val hF (x_move rfl) (by decide) fun a hF => ?_
    refine s_val hF (x_gtr (b := false) (decide_eq_false (by omega)) rfl rfl) (by decide) fun a hF => ?_
    refine s_val hF (x_move rfl) (by decide) fun a hF => ?_
    refine s_grd 20 hF rfl rfl rfl ?_
    refine s_val hF (x_move rfl) (by decide) fun a hF => ?_
    refine s_grd 20 hF rfl rfl rfl ?_
    refine s_val hF (x_nil rfl) (by decide) fun a hF => ?_
    refine s_grd 20 hF rfl rfl rfl ?_
    refine s_val hF (x_load rfl (m_load flat3 (mg.cell (j := 0) rfl))) (by decide) fun a hF => ?_
    refine s_grd 20 hF rfl rfl rfl ?_
    refine s_val hF (x_gtr (b := true) (decide_eq_true (by omega)) rfl rfl) (by decide) fun a hF => ?_
    refine s_val hF (x_pick (b := false) rfl rfl) (by decide) fun a hF => ?_
    refine s_val hF (x_assign rfl) (by decide) fun a hF => ?_
    refine s_end (hK7 _ _ ?_)
    refine wp_if hF rfl ?_
    refine wp_rs fun K8 hK8 => ?_
    refine s_val hF (x_assign rfl) (by decide) fun a hF => ?_
    refine s_end (hK8 _ _ ?_)
    refine wp_ret (inb_ret (then_ret (res_slot hF rfl rfl ⟨_, rfl, ⟨int_of (chk_two (by omega)).symm, fun h => absurd ((chk_two (by omega)).symm.trans h) (by decide)⟩, hK⟩)))
  · skip
    refine wp_rs fun K9 hK9 => ?_
    refine s_val hF (x_move rfl) (by decide) fun a hF => ?_
    refine s_val hF (x_gtr (b := false) (decide_eq_false (by omega)) rfl rfl) (by decide) fun a hF => ?_
    refine s_val hF (x_move rfl) (by decide) fun a hF => ?_
    refine s_grd 20 hF rfl rfl rfl ?_
    refine s_val hF (x_move rfl) (by decide) fun a hF => ?_
    refine s_grd 20 hF rfl rfl rfl ?_
    refine s_val hF (x_nil rfl) (by decide) fun a hF => ?_
    refine s_grd 20 hF rfl rfl rfl ?_
    refine s_val hF (x_load rfl (m_load flat3 (mg.cell (j := 0) rfl))) (by decide) fun a hF => ?_
    refine s_grd 20 hF rfl rfl rfl ?_
    refine s_val hF (x_gtr (b := false) (decide_eq_false (by omega)) rfl rfl) (by decide) fun a hF => ?_
    refine s_val hF (x_pick (b := false) rfl rfl) (by decide) fun a hF => ?_
    refine s_val hF (x_assign rfl) (by decide) fun a hF => ?_
    refine s_end (hK9 _ _ ?_)
    refine wp_if hF rfl ?_
    rcases (show arI k < 0 ∨ (0 ≤ arI k ∧ (xs.length : Int) ≠ arI k) ∨ (0 ≤ arI k ∧ (xs.length : Int) = arI k) by omega) with hkb | hkb | hkb
    · have hq : kidsB k ls.length = false ∨ numB 1048576 k n = false := .inl (arI_no (by omega))
      refine dk2_seq (w4.heap.size) (w4.heap.size) (ops := regOps Try.f82 4) (N := 14) (by kernel_rfl) wide_orders (by kernel_rfl) fun w6 hw6 B7 hS K11 hK11 => ?_
      have zw6 : w6.heap.size = w4.heap.size := by rw [hw6]
      have sB7 := B7.size
      have hB := hB.trans (B7.mono hB.size)
      have hK := hK.below B7
      have mg := mg.old B7
      have m4 := m4.old B7
      have mg_d := mg
      have m4_d := m4
      have hB_d := hB
      have hK_d := hK
      refine d_val 0 27 (op := (Go.Op.fieldAddr 24 (Go.Operand.tmp 4) 0)) hF hS (by kernel_rfl) (fun W hW => x_fa0 fa24_0 rfl) (by kernel_rfl) (by decide) fun a hF => ?_
      refine d_val 1 28 (op := (Go.Op.load 3 (Go.Operand.tmp 27))) hF hS (by kernel_rfl) (fun W hW => x_load rfl (m_load flat3 ((m4_d.k2 hW (by omega)).cell (j := 0) rfl))) (by kernel_rfl) (by decide) fun a hF => ?_
      refine d_one 2 (some 29) (Go.Op.call (Go.Call.mk (Go.Callee.value (Go.Operand.func 119)) #[(Go.Operand.tmp 28)] #[3])) (by kernel_rfl) (by kernel_rfl) fun ty pos af => ?_
      refine s_callS [.int .i64 k] hF (enters_of Try.func119 (by kernel_rfl) rfl) rfl (by decide) (arity58 k _) fun a hF => ?_
      refine s_end ⟨hS, ?_⟩
      refine d_val 3 30 (op := (Go.Op.binOp Go.BinOp.lss 3 (Go.Operand.tmp 29) (Go.Operand.const (Go.Value.int Go.IntKind.i64 0)) 3)) hF hS (by kernel_rfl) (fun W hW => x_lss (b := true) (decide_eq_true (by omega)) rfl rfl) (by kernel_rfl) (by decide) fun a hF => ?_
      refine d_val 4 31 (op := (Go.Op.move (Go.Operand.tmp 30))) hF hS (by kernel_rfl) (fun W hW => x_move rfl) (by kernel_rfl) (by decide) fun a hF => ?_
      refine d_skip 5 32 31 (j := 4) (want := false) (op := (Go.Op.fieldAddr 24 (Go.Operand.tmp 4) 2)) hF hS (by kernel_rfl) (by kernel_rfl) rfl (by kernel_rfl) (by decide) fun a hF => ?_
      refine d_skip 6 33 31 (j := 4) (want := false) (op := (Go.Op.load 22 (Go.Operand.tmp 32))) hF hS (by kernel_rfl) (by kernel_rfl) rfl (by kernel_rfl) (by decide) fun a hF => ?_
      refine d_skip 7 34 31 (j := 4) (want := false) (op := (Go.Op.call (Go.Call.mk (Go.Callee.builtin Go.Builtin.len) #[(Go.Operand.tmp 33)] #[22]))) hF hS (by kernel_rfl) (by kernel_rfl) rfl (by kernel_rfl) (by decide) fun a hF => ?_
      refine d_skip 8 35 31 (j := 4) (want := false) (op := (Go.Op.fieldAddr 24 (Go.Operand.tmp 4) 0)) hF hS (by kernel_rfl) (by kernel_rfl) rfl (by kernel_rfl) (by decide) fun a hF => ?_
      refine d_skip 9 36 31 (j := 4) (want := false) (op := (Go.Op.load 3 (Go.Operand.tmp 35))) hF hS (by kernel_rfl) (by kernel_rfl) rfl (by kernel_rfl) (by decide) fun a hF => ?_
      refine d_skip 10 37 31 (j := 4) (want := false) (op := (Go.Op.call (Go.Call.mk (Go.Callee.value (Go.Operand.func 119)) #[(Go.Operand.tmp 36)] #[3]))) hF hS (by kernel_rfl) (by kernel_rfl) rfl (by kernel_rfl) (by decide) fun a hF => ?_
      refine d_skip 11 38 31 (j := 4) (want := false) (op := (Go.Op.binOp Go.BinOp.neq 3 (Go.Operand.tmp 34) (Go.Operand.tmp 37) 3)) hF hS (by kernel_rfl) (by kernel_rfl) rfl (by kernel_rfl) (by decide) fun a hF => ?_
      refine d_val 12 39 (op := (Go.Op.pick (Go.Operand.tmp 31) (Go.Operand.const (Go.Value.bool true)) (Go.Operand.tmp 38))) hF hS (by kernel_rfl) (fun W hW => x_pick (b := true) rfl rfl) (by kernel_rfl) (by decide) fun a hF => ?_
      refine d_val 13 26 (op := (Go.Op.assign (Go.Operand.tmp 39))) hF hS (by kernel_rfl) (fun W hW => x_assign rfl) (by kernel_rfl) (by decide) fun a hF => ?_
      refine d_end (by kernel_rfl) (hK11 _ _ ?_)
      refine wp_if hF rfl ?_
      refine wp_rs fun K12 hK12 => ?_
      refine s_val hF (x_assign rfl) (by decide) fun a hF => ?_
      refine s_end (hK12 _ _ ?_)
      refine wp_ret (inb_ret (then_ret (res_slot hF rfl rfl ⟨_, rfl, ⟨int_of (chk_one (by omega) hq).symm, fun h => absurd ((chk_one (by omega) hq).symm.trans h) (by decide)⟩, hK⟩)))
    · have hq : kidsB k ls.length = false ∨ numB 1048576 k n = false := .inl (arI_no (by omega))
      refine dk2_seq (w4.heap.size) (w4.heap.size) (ops := regOps Try.f82 4) (N := 14) (by kernel_rfl) wide_orders (by kernel_rfl) fun w8 hw8 B9 hS K13 hK13 => ?_
      have zw8 : w8.heap.size = w4.heap.size := by rw [hw8]
      have sB9 := B9.size
      have hB := hB.trans (B9.mono hB.size)
      have hK := hK.below B9
      have mg := mg.old B9
      have m4 := m4.old B9
      have mg_d := mg
      have m4_d := m4
      have hB_d := hB
      have hK_d := hK
      refine d_val 0 27 (op := (Go.Op.fieldAddr 24 (Go.Operand.tmp 4) 0)) hF hS (by kernel_rfl) (fun W hW => x_fa0 fa24_0 rfl) (by kernel_rfl) (by decide) fun a hF => ?_
      refine d_val 1 28 (op := (Go.Op.load 3 (Go.Operand.tmp 27))) hF hS (by kernel_rfl) (fun W hW => x_load rfl (m_load flat3 ((m4_d.k2 hW (by omega)).cell (j := 0) rfl))) (by kernel_rfl) (by decide) fun a hF => ?_
      refine d_one 2 (some 29) (Go.Op.call (Go.Call.mk (Go.Callee.value (Go.Operand.func 119)) #[(Go.Operand.tmp 28)] #[3])) (by kernel_rfl) (by kernel_rfl) fun ty pos af => ?_
      refine s_callS [.int .i64 k] hF (enters_of Try.func119 (by kernel_rfl) rfl) rfl (by decide) (arity58 k _) fun a hF => ?_
      refine s_end ⟨hS, ?_⟩
      refine d_val 3 30 (op := (Go.Op.binOp Go.BinOp.lss 3 (Go.Operand.tmp 29) (Go.Operand.const (Go.Value.int Go.IntKind.i64 0)) 3)) hF hS (by kernel_rfl) (fun W hW => x_lss (b := false) (decide_eq_false (by omega)) rfl rfl) (by kernel_rfl) (by decide) fun a hF => ?_
      refine d_val 4 31 (op := (Go.Op.move (Go.Operand.tmp 30))) hF hS (by kernel_rfl) (fun W hW => x_move rfl) (by kernel_rfl) (by decide) fun a hF => ?_
      refine d_valg 5 32 31 (j := 4) (want := false) (op := (Go.Op.fieldAddr 24 (Go.Operand.tmp 4) 2)) hF hS (by kernel_rfl) (by kernel_rfl) rfl (fun W hW => x_fa0 fa24_2 rfl) (by kernel_rfl) (by decide) fun a hF => ?_
      refine d_valg 6 33 31 (j := 4) (want := false) (op := (Go.Op.load 22 (Go.Operand.tmp 32))) hF hS (by kernel_rfl) (by kernel_rfl) rfl (fun W hW => x_load rfl (m_load flat22 ((m4_d.k2 hW (by omega)).cell (j := 2) rfl))) (by kernel_rfl) (by decide) fun a hF => ?_
      refine d_valg 7 34 31 (j := 4) (want := false) (op := (Go.Op.call (Go.Call.mk (Go.Callee.builtin Go.Builtin.len) #[(Go.Operand.tmp 33)] #[22]))) hF hS (by kernel_rfl) (by kernel_rfl) rfl (fun W hW => x_len Try.underlying22 rfl) (by kernel_rfl) (by decide) fun a hF => ?_
      refine d_valg 8 35 31 (j := 4) (want := false) (op := (Go.Op.fieldAddr 24 (Go.Operand.tmp 4) 0)) hF hS (by kernel_rfl) (by kernel_rfl) rfl (fun W hW => x_fa0 fa24_0 rfl) (by kernel_rfl) (by decide) fun a hF => ?_
      refine d_valg 9 36 31 (j := 4) (want := false) (op := (Go.Op.load 3 (Go.Operand.tmp 35))) hF hS (by kernel_rfl) (by kernel_rfl) rfl (fun W hW => x_load rfl (m_load flat3 ((m4_d.k2 hW (by omega)).cell (j := 0) rfl))) (by kernel_rfl) (by decide) fun a hF => ?_
      refine d_oneg 10 31 (some 37) (Go.Op.call (Go.Call.mk (Go.Callee.value (Go.Operand.func 119)) #[(Go.Operand.tmp 36)] #[3])) (j := 4) (want := false) hF (by kernel_rfl) (by kernel_rfl) (by kernel_rfl) rfl fun ty pos af => ?_
      refine s_callS [.int .i64 k] hF (enters_of Try.func119 (by kernel_rfl) rfl) rfl (by decide) (arity58 k _) fun a hF => ?_
      refine s_end ⟨hS, ?_⟩
      refine d_valg 11 38 31 (j := 4) (want := false) (op := (Go.Op.binOp Go.BinOp.neq 3 (Go.Operand.tmp 34) (Go.Operand.tmp 37) 3)) hF hS (by kernel_rfl) (by kernel_rfl) rfl (fun W hW => x_neq (b := true) (decide_eq_true (by omega)) rfl rfl) (by kernel_rfl) (by decide) fun a hF => ?_
      refine d_val 12 39 (op := (Go.Op.pick (Go.Operand.tmp 31) (Go.Operand.const (Go.Value.bool true)) (Go.Operand.tmp 38))) hF hS (by kernel_rfl) (fun W hW => x_pick (b := false) rfl rfl) (by kernel_rfl) (by decide) fun a hF => ?_
      refine d_val 13 26 (op := (Go.Op.assign (Go.Operand.tmp 39))) hF hS (by kernel_rfl) (fun W hW => x_assign rfl) (by kernel_rfl) (by decide) fun a hF => ?_
      refine d_end (by kernel_rfl) (hK13 _ _ ?_)
      refine wp_if hF rfl ?_
      refine wp_rs fun K14 hK14 => ?_
      refine s_val hF (x_assign rfl) (by decide) fun a hF => ?_
      refine s_end (hK14 _ _ ?_)
      refine wp_ret (inb_ret (then_ret (res_slot hF rfl rfl ⟨_, rfl, ⟨int_of (chk_one (by omega) hq).symm, fun h => absurd ((chk_one (by omega) hq).symm.trans h) (by decide)⟩, hK⟩)))
    · have hkl : kidsB k ls.length = true := arI_kids.2 (by omega)
      refine dk2_seq (w4.heap.size) (w4.heap.size) (ops := regOps Try.f82 4) (N := 14) (by kernel_rfl) wide_orders (by kernel_rfl) fun w10 hw10 B11 hS K15 hK15 => ?_
      have zw10 : w10.heap.size = w4.heap.size := by rw [hw10]
      have sB11 := B11.size
      have hB := hB.trans (B11.mono hB.size)
      have hK := hK.below B11
      have mg := mg.old B11
      have m4 := m4.old B11
      have mg_d := mg
      have m4_d := m4
      have hB_d := hB
      have hK_d := hK
      refine d_val 0 27 (op := (Go.Op.fieldAddr 24 (Go.Operand.tmp 4) 0)) hF hS (by kernel_rfl) (fun W hW => x_fa0 fa24_0 rfl) (by kernel_rfl) (by decide) fun a hF => ?_
      refine d_val 1 28 (op := (Go.Op.load 3 (Go.Operand.tmp 27))) hF hS (by kernel_rfl) (fun W hW => x_load rfl (m_load flat3 ((m4_d.k2 hW (by omega)).cell (j := 0) rfl))) (by kernel_rfl) (by decide) fun a hF => ?_
      refine d_one 2 (some 29) (Go.Op.call (Go.Call.mk (Go.Callee.value (Go.Operand.func 119)) #[(Go.Operand.tmp 28)] #[3])) (by kernel_rfl) (by kernel_rfl) fun ty pos af => ?_
      refine s_callS [.int .i64 k] hF (enters_of Try.func119 (by kernel_rfl) rfl) rfl (by decide) (arity58 k _) fun a hF => ?_
      refine s_end ⟨hS, ?_⟩
      refine d_val 3 30 (op := (Go.Op.binOp Go.BinOp.lss 3 (Go.Operand.tmp 29) (Go.Operand.const (Go.Value.int Go.IntKind.i64 0)) 3)) hF hS (by kernel_rfl) (fun W hW => x_lss (b := false) (decide_eq_false (by omega)) rfl rfl) (by kernel_rfl) (by decide) fun a hF => ?_
      refine d_val 4 31 (op := (Go.Op.move (Go.Operand.tmp 30))) hF hS (by kernel_rfl) (fun W hW => x_move rfl) (by kernel_rfl) (by decide) fun a hF => ?_
      refine d_valg 5 32 31 (j := 4) (want := false) (op := (Go.Op.fieldAddr 24 (Go.Operand.tmp 4) 2)) hF hS (by kernel_rfl) (by kernel_rfl) rfl (fun W hW => x_fa0 fa24_2 rfl) (by kernel_rfl) (by decide) fun a hF => ?_
      refine d_valg 6 33 31 (j := 4) (want := false) (op := (Go.Op.load 22 (Go.Operand.tmp 32))) hF hS (by kernel_rfl) (by kernel_rfl) rfl (fun W hW => x_load rfl (m_load flat22 ((m4_d.k2 hW (by omega)).cell (j := 2) rfl))) (by kernel_rfl) (by decide) fun a hF => ?_
      refine d_valg 7 34 31 (j := 4) (want := false) (op := (Go.Op.call (Go.Call.mk (Go.Callee.builtin Go.Builtin.len) #[(Go.Operand.tmp 33)] #[22]))) hF hS (by kernel_rfl) (by kernel_rfl) rfl (fun W hW => x_len Try.underlying22 rfl) (by kernel_rfl) (by decide) fun a hF => ?_
      refine d_valg 8 35 31 (j := 4) (want := false) (op := (Go.Op.fieldAddr 24 (Go.Operand.tmp 4) 0)) hF hS (by kernel_rfl) (by kernel_rfl) rfl (fun W hW => x_fa0 fa24_0 rfl) (by kernel_rfl) (by decide) fun a hF => ?_
      refine d_valg 9 36 31 (j := 4) (want := false) (op := (Go.Op.load 3 (Go.Operand.tmp 35))) hF hS (by kernel_rfl) (by kernel_rfl) rfl (fun W hW => x_load rfl (m_load flat3 ((m4_d.k2 hW (by omega)).cell (j := 0) rfl))) (by kernel_rfl) (by decide) fun a hF => ?_
      refine d_oneg 10 31 (some 37) (Go.Op.call (Go.Call.mk (Go.Callee.value (Go.Operand.func 119)) #[(Go.Operand.tmp 36)] #[3])) (j := 4) (want := false) hF (by kernel_rfl) (by kernel_rfl) (by kernel_rfl) rfl fun ty pos af => ?_
      refine s_callS [.int .i64 k] hF (enters_of Try.func119 (by kernel_rfl) rfl) rfl (by decide) (arity58 k _) fun a hF => ?_
      refine s_end ⟨hS, ?_⟩
      refine d_valg 11 38 31 (j := 4) (want := false) (op := (Go.Op.binOp Go.BinOp.neq 3 (Go.Operand.tmp 34) (Go.Operand.tmp 37) 3)) hF hS (by kernel_rfl) (by kernel_rfl) rfl (fun W hW => x_neq (b := false) (decide_eq_false (by omega)) rfl rfl) (by kernel_rfl) (by decide) fun a hF => ?_
      refine d_val 12 39 (op := (Go.Op.pick (Go.Operand.tmp 31) (Go.Operand.const (Go.Value.bool true)) (Go.Operand.tmp 38))) hF hS (by kernel_rfl) (fun W hW => x_pick (b := false) rfl rfl) (by kernel_rfl) (by decide) fun a hF => ?_
      refine d_val 13 26 (op := (Go.Op.assign (Go.Operand.tmp 39))) hF hS (by kernel_rfl) (fun W hW => x_assign rfl) (by kernel_rfl) (by decide) fun a hF => ?_
      refine d_end (by kernel_rfl) (hK15 _ _ ?_)
      refine wp_if hF rfl ?_
      rcases (show (k = 1 ∧ n < 0) ∨ (k = 1 ∧ 0 ≤ n ∧ 1048576 < n) ∨ (k = 1 ∧ 0 ≤ n ∧ n ≤ 1048576) ∨ (k = 3 ∧ n < 1) ∨ (k = 3 ∧ 1 ≤ n ∧ 1048576 < n) ∨ (k = 3 ∧ 1 ≤ n ∧ n ≤ 1048576) ∨ (k = 2 ∧ n < 0) ∨ (k = 2 ∧ 0 ≤ n ∧ vars ≤ n) ∨ (k = 2 ∧ 0 ≤ n ∧ n < vars) ∨ (k ≠ 1 ∧ k ≠ 2 ∧ k ≠ 3) by omega) with hv | hv | hv | hv | hv | hv | hv | hv | hv | hv
      · have hq : kidsB k ls.length = false ∨ numB 1048576 k n = false := .inr (numB_no (by omega))
        refine wp_rs fun K17 hK17 => ?_
        refine s_val hF (x_fa0 fa24_0 rfl) (by decide) fun a hF => ?_
        refine s_val hF (x_load rfl (m_load flat3 (m4.cell (j := 0) rfl))) (by decide) fun a hF => ?_
        refine s_val hF (x_eql (b := true) (decide_eq_true (by omega)) rfl rfl) (by decide) fun a hF => ?_
        refine s_val hF (x_move rfl) (by decide) fun a hF => ?_
        refine s_grd 44 hF rfl rfl rfl ?_
        refine s_val hF (x_fa0 fa24_1 rfl) (by decide) fun a hF => ?_
        refine s_grd 44 hF rfl rfl rfl ?_
        refine s_val hF (x_load rfl (m_load flat3 (m4.cell (j := 1) rfl))) (by decide) fun a hF => ?_
        refine s_grd 44 hF rfl rfl rfl ?_
        refine s_val hF (x_lss (b := true) (decide_eq_true (by omega)) rfl rfl) (by decide) fun a hF => ?_
        refine s_grd 44 hF rfl rfl rfl ?_
        refine s_val hF (x_move rfl) (by decide) fun a hF => ?_
        refine s_grdn 48 hF rfl rfl (by decide) fun a hF => ?_
        refine s_grdn 48 hF rfl rfl (by decide) fun a hF => ?_
        refine s_grdn 48 hF rfl rfl (by decide) fun a hF => ?_
        refine s_grd 44 hF rfl rfl rfl ?_
        refine s_val hF (x_pick (b := true) rfl rfl) (by decide) fun a hF => ?_
        refine s_val hF (x_pick (b := true) rfl rfl) (by decide) fun a hF => ?_
        refine s_val hF (x_move rfl) (by decide) fun a hF => ?_
        refine s_grdn 54 hF rfl rfl (by decide) fun a hF => ?_
        refine s_grdn 54 hF rfl rfl (by decide) fun a hF => ?_
        refine s_grdn 54 hF rfl rfl (by decide) fun a hF => ?_
        refine s_grdn 54 hF rfl rfl (by decide) fun a hF => ?_
        refine s_grdu 58 hF rfl rfl (by decide) fun a hF => ?_
        refine s_grdu 58 hF rfl rfl (by decide) fun a hF => ?_
        refine s_grdu 58 hF rfl rfl (by decide) fun a hF => ?_
        refine s_grdu 58 hF rfl rfl (by decide) fun a hF => ?_
        refine s_grdu 62 hF rfl rfl (by decide) fun a hF => ?_
        refine s_grdu 62 hF rfl rfl (by decide) fun a hF => ?_
        refine s_grdu 62 hF rfl rfl (by decide) fun a hF => ?_
        refine s_grdu 58 hF rfl rfl (by decide) fun a hF => ?_
        refine s_grdn 54 hF rfl rfl (by decide) fun a hF => ?_
        refine s_val hF (x_pick (b := true) rfl rfl) (by decide) fun a hF => ?_
        refine s_val hF (x_assign rfl) (by decide) fun a hF => ?_
        refine s_end (hK17 _ _ ?_)
        refine wp_if hF rfl ?_
        refine wp_rs fun K18 hK18 => ?_
        refine s_val hF (x_assign rfl) (by decide) fun a hF => ?_
        refine s_end (hK18 _ _ ?_)
        refine wp_ret (inb_ret (then_ret (res_slot hF rfl rfl ⟨_, rfl, ⟨int_of (chk_one (by omega) hq).symm, fun h => absurd ((chk_one (by omega) hq).symm.trans h) (by decide)⟩, hK⟩)))
      · have hq : kidsB k ls.length = false ∨ numB 1048576 k n = false := .inr (numB_no (by omega))
        refine wp_rs fun K19 hK19 => ?_
        refine s_val hF (x_fa0 fa24_0 rfl) (by decide) fun a hF => ?_
        refine s_val hF (x_load rfl (m_load flat3 (m4.cell (j := 0) rfl))) (by decide) fun a hF => ?_
        refine s_val hF (x_eql (b := true) (decide_eq_true (by omega)) rfl rfl) (by decide) fun a hF => ?_
        refine s_val hF (x_move rfl) (by decide) fun a hF => ?_
        refine s_grd 44 hF rfl rfl rfl ?_
        refine s_val hF (x_fa0 fa24_1 rfl) (by decide) fun a hF => ?_
        refine s_grd 44 hF rfl rfl rfl ?_
        refine s_val hF (x_load rfl (m_load flat3 (m4.cell (j := 1) rfl))) (by decide) fun a hF => ?_
        refine s_grd 44 hF rfl rfl rfl ?_
        refine s_val hF (x_lss (b := false) (decide_eq_false (by omega)) rfl rfl) (by decide) fun a hF => ?_
        refine s_grd 44 hF rfl rfl rfl ?_
        refine s_val hF (x_move rfl) (by decide) fun a hF => ?_
        refine s_grd 48 hF rfl rfl rfl ?_
        refine s_val hF (x_fa0 fa24_1 rfl) (by decide) fun a hF => ?_
        refine s_grd 48 hF rfl rfl rfl ?_
        refine s_val hF (x_load rfl (m_load flat3 (m4.cell (j := 1) rfl))) (by decide) fun a hF => ?_
        refine s_grd 48 hF rfl rfl rfl ?_
        refine s_val hF (x_gtr (b := true) (decide_eq_true (by omega)) rfl rfl) (by decide) fun a hF => ?_
        refine s_grd 44 hF rfl rfl rfl ?_
        refine s_val hF (x_pick (b := false) rfl rfl) (by decide) fun a hF => ?_
        refine s_val hF (x_pick (b := true) rfl rfl) (by decide) fun a hF => ?_
        refine s_val hF (x_move rfl) (by decide) fun a hF => ?_
        refine s_grdn 54 hF rfl rfl (by decide) fun a hF => ?_
        refine s_grdn 54 hF rfl rfl (by decide) fun a hF => ?_
        refine s_grdn 54 hF rfl rfl (by decide) fun a hF => ?_
        refine s_grdn 54 hF rfl rfl (by decide) fun a hF => ?_
        refine s_grdu 58 hF rfl rfl (by decide) fun a hF => ?_
        refine s_grdu 58 hF rfl rfl (by decide) fun a hF => ?_
        refine s_grdu 58 hF rfl rfl (by decide) fun a hF => ?_
        refine s_grdu 58 hF rfl rfl (by decide) fun a hF => ?_
        refine s_grdu 62 hF rfl rfl (by decide) fun a hF => ?_
        refine s_grdu 62 hF rfl rfl (by decide) fun a hF => ?_
        refine s_grdu 62 hF rfl rfl (by decide) fun a hF => ?_
        refine s_grdu 58 hF rfl rfl (by decide) fun a hF => ?_
        refine s_grdn 54 hF rfl rfl (by decide) fun a hF => ?_
        refine s_val hF (x_pick (b := true) rfl rfl) (by decide) fun a hF => ?_
        refine s_val hF (x_assign rfl) (by decide) fun a hF => ?_
        refine s_end (hK19 _ _ ?_)
        refine wp_if hF rfl ?_
        refine wp_rs fun K20 hK20 => ?_
        refine s_val hF (x_assign rfl) (by decide) fun a hF => ?_
        refine s_end (hK20 _ _ ?_)
        refine wp_ret (inb_ret (then_ret (res_slot hF rfl rfl ⟨_, rfl, ⟨int_of (chk_one (by omega) hq).symm, fun h => absurd ((chk_one (by omega) hq).symm.trans h) (by decide)⟩, hK⟩)))
      · have hnb : numB 1048576 k n = true := numB_iff.2 (by omega)
        have hnd := nodeE_iff.2 ⟨hp.1, hp.2, hkl, hnb, (by omega : ¬ (k = 2 ∧ (n < 0 ∨ vars ≤ n)))⟩
        refine wp_rs fun K21 hK21 => ?_
        refine s_val hF (x_fa0 fa24_0 rfl) (by decide) fun a hF => ?_
        refine s_val hF (x_load rfl (m_load flat3 (m4.cell (j := 0) rfl))) (by decide) fun a hF => ?_
        refine s_val hF (x_eql (b := true) (decide_eq_true (by omega)) rfl rfl) (by decide) fun a hF => ?_
        refine s_val hF (x_move rfl) (by decide) fun a hF => ?_
        refine s_grd 44 hF rfl rfl rfl ?_
        refine s_val hF (x_fa0 fa24_1 rfl) (by decide) fun a hF => ?_
        refine s_grd 44 hF rfl rfl rfl ?_
        refine s_val hF (x_load rfl (m_load flat3 (m4.cell (j := 1) rfl))) (by decide) fun a hF => ?_
        refine s_grd 44 hF rfl rfl rfl ?_
        refine s_val hF (x_lss (b := false) (decide_eq_false (by omega)) rfl rfl) (by decide) fun a hF => ?_
        refine s_grd 44 hF rfl rfl rfl ?_
        refine s_val hF (x_move rfl) (by decide) fun a hF => ?_
        refine s_grd 48 hF rfl rfl rfl ?_
        refine s_val hF (x_fa0 fa24_1 rfl) (by decide) fun a hF => ?_
        refine s_grd 48 hF rfl rfl rfl ?_
        refine s_val hF (x_load rfl (m_load flat3 (m4.cell (j := 1) rfl))) (by decide) fun a hF => ?_
        refine s_grd 48 hF rfl rfl rfl ?_
        refine s_val hF (x_gtr (b := false) (decide_eq_false (by omega)) rfl rfl) (by decide) fun a hF => ?_
        refine s_grd 44 hF rfl rfl rfl ?_
        refine s_val hF (x_pick (b := false) rfl rfl) (by decide) fun a hF => ?_
        refine s_val hF (x_pick (b := true) rfl rfl) (by decide) fun a hF => ?_
        refine s_val hF (x_move rfl) (by decide) fun a hF => ?_
        refine s_grd 54 hF rfl rfl rfl ?_
        refine s_val hF (x_fa0 fa24_0 rfl) (by decide) fun a hF => ?_
        refine s_grd 54 hF rfl rfl rfl ?_
        refine s_val hF (x_load rfl (m_load flat3 (m4.cell (j := 0) rfl))) (by decide) fun a hF => ?_
        refine s_grd 54 hF rfl rfl rfl ?_
        refine s_val hF (x_eql (b := false) (decide_eq_false (by omega)) rfl rfl) (by decide) fun a hF => ?_
        refine s_grd 54 hF rfl rfl rfl ?_
        refine s_val hF (x_move rfl) (by decide) fun a hF => ?_
        refine s_grdn 58 hF rfl rfl (by decide) fun a hF => ?_
        refine s_grdn 58 hF rfl rfl (by decide) fun a hF => ?_
        refine s_grdn 58 hF rfl rfl (by decide) fun a hF => ?_
        refine s_grdn 58 hF rfl rfl (by decide) fun a hF => ?_
        refine s_grdu 62 hF rfl rfl (by decide) fun a hF => ?_
        refine s_grdu 62 hF rfl rfl (by decide) fun a hF => ?_
        refine s_grdu 62 hF rfl rfl (by decide) fun a hF => ?_
        refine s_grdn 58 hF rfl rfl (by decide) fun a hF => ?_
        refine s_grd 54 hF rfl rfl rfl ?_
        refine s_val hF (x_pick (b := false) rfl rfl) (by decide) fun a hF => ?_
        refine s_val hF (x_pick (b := false) rfl rfl) (by decide) fun a hF => ?_
        refine s_val hF (x_assign rfl) (by decide) fun a hF => ?_
        refine s_end (hK21 _ _ ?_)
        refine wp_if hF rfl ?_
        refine wp_rs fun K22 hK22 => ?_
        refine s_val hF (x_fa0 fa24_0 rfl) (by decide) fun a hF => ?_
        refine s_val hF (x_load rfl (m_load flat3 (m4.cell (j := 0) rfl))) (by decide) fun a hF => ?_
        refine s_val hF (x_eql (b := false) (decide_eq_false (by omega)) rfl rfl) (by decide) fun a hF => ?_
        refine s_val hF (x_move rfl) (by decide) fun a hF => ?_
        refine s_grdn 73 hF rfl rfl (by decide) fun a hF => ?_
        refine s_grdn 73 hF rfl rfl (by decide) fun a hF => ?_
        refine s_grdn 73 hF rfl rfl (by decide) fun a hF => ?_
        refine s_grdn 73 hF rfl rfl (by decide) fun a hF => ?_
        refine s_grdu 77 hF rfl rfl (by decide) fun a hF => ?_
        refine s_grdu 77 hF rfl rfl (by decide) fun a hF => ?_
        refine s_grdu 77 hF rfl rfl (by decide) fun a hF => ?_
        refine s_grdu 77 hF rfl rfl (by decide) fun a hF => ?_
        refine s_grdn 73 hF rfl rfl (by decide) fun a hF => ?_
        refine s_val hF (x_pick (b := false) rfl rfl) (by decide) fun a hF => ?_
        refine s_val hF (x_assign rfl) (by decide) fun a hF => ?_
        refine s_end (hK22 _ _ ?_)
        refine wp_if hF rfl ?_
        refine wp_skip (hK3 _ _ ?_)
        refine wp_seq_k fun K23 hK23 => ?_
        refine wp_rs fun K24 hK24 => ?_
        refine s_val hF (x_fa0 fa24_2 rfl) (by decide) fun a hF => ?_
        refine s_val hF (x_load rfl (m_load flat22 (m4.cell (j := 2) rfl))) (by decide) fun a hF => ?_
        refine s_val hF (x_len Try.underlying22 rfl) (by decide) fun a hF => ?_
        refine s_val hF (x_move rfl) (by decide) fun a hF => ?_
        refine s_end (hK24 _ _ ?_)
        refine wp_block ?_
        have mg : Blk w10 g 3 [.int .i64 (100 - ((r - 1 : Nat) : Int))] := by rw [show (100 : Int) - ((r - 1 : Nat) : Int) = 100 - (r : Int) + 1 by omega]; exact mg
        refine wp_up xs.length (fun i a w => ∃ ri : Nat, ri ≤ 100 ∧ chks 32 1048576 vars (d + 1) (r - 1) ls = chks 32 1048576 vars (d + 1) ri (ls.drop i) ∧ Blk w g 3 [.int .i64 (100 - (ri : Int))] ∧ Below w0.heap.size w0 w ∧ Ktw g g w1 w ∧ Fs 101 a [(87, .int .i64 (i : Int)), (86, .int .i64 (xs.length : Int)), (85, .slice av xs.length cv), (1, .int .i64 vars), (2, .int .i64 d), (3, .pointer (some ⟨g, 0, none⟩))]) ⟨r - 1, by omega, rfl, mg, hB, hK, hF.sub _ rfl⟩ ?_
        clear hF hB hK mg
        rintro i a w hi ⟨ri, hri, hck, mg, hB, hK, hF⟩ K' hK'
        have sB := hB.size
        have hgl := mg.lt
        have sK := hK.size
        have hle := kids_le hkl
        refine wp_rs fun K25 hK25 => ?_
        refine s_val hF (x_lss rfl rfl rfl) (by decide) fun a hF => ?_
        refine s_end (hK25 _ _ ?_)
        refine wp_seq_k fun K26 hK26 => ?_
        refine wp_iff hF rfl (fun hc88 => ?_) (fun hc88 => ?_)
        · obtain ⟨b, off, c, y, hve, hy, hrow⟩ := rd_row3 hR (i := i) (by omega)
          cases hve
          obtain ⟨l, hlk⟩ : ∃ l, ls[i]? = some l := ⟨_, List.getElem?_eq_getElem (by omega)⟩
          have ihy := ih i y l hy hlk
          have h1y := (hk i y l hy hlk).one1
          rw [drop_at hlk] at hck
          refine wp_skip (hK26 _ _ ?_)
          refine wp_seq_k fun K27 hK27 => ?_
          refine wp_block ?_
          refine wp_rs fun K28 hK28 => ?_
          refine s_val hF (x_ixa rfl rfl (m_ixsK i Try.underlying22 el22.size rfl (by omega))) (by decide) fun a hF => ?_
          refine s_val hF (x_ldA wide24 (hrow _ hB) rfl rfl) (by decide) fun a hF => ?_
          refine s_alloc hF (by decide) zero24 fun w12 b10 a eb10 m10 B13 zb10 hF => ?_
          have sB13 := B13.size
          have hB := hB.trans (B13.mono hB.size)
          have hK := hK.below B13
          have mg := mg.old B13
          refine s_putW hF rfl rfl (size_wide wide24) m10 rfl (one_lc h1y) fun w14 m10 o15 => ?_
          have so15 := o15.size
          have hB := hB.trans (o15.below (by omega))
          have hK := hK.only o15 (by omega)
          have mg := mg.only o15 (by omega)
          refine s_end (hK28 _ _ ?_)
          refine wp_rs fun K29 hK29 => ?_
          refine s_val hF (x_ldW wide24 m10 rfl rfl) (by decide) fun a hF => ?_
          refine s_val hF (x_move rfl) (by decide) fun a hF => ?_
          refine s_val hF (x_move rfl) (by decide) fun a hF => ?_
          refine s_val hF (x_add (by omega) (by omega) rfl rfl) (by decide) fun a hF => ?_
          refine s_val hF (x_move rfl) (by decide) fun a hF => ?_
          refine s_call (R := fun u w' => (u = .int .i64 (chk 32 1048576 vars (d + 1) ri l).1 ∧ ((chk 32 1048576 vars (d + 1) ri l).1 = 0 → Blk w' g 3 [.int .i64 (100 - ((chk 32 1048576 vars (d + 1) ri l).2 : Int))])) ∧ Ktw g g w14 w') hF [_, _, _, _] (enters_of Try.func82 (by kernel_rfl) rfl) rfl (by decide) (ihy (d + 1) ri w14 (by omega) (by omega) hri hB mg) ?_
          rintro _ w16 a ⟨⟨rfl, hmg⟩, k17⟩ hF
          have sk17 := k17.size
          have hB := k17.under hB (by omega)
          have hK := hK.trans k17 (by omega)
          have m10 := m10.k2 k17 (by omega)
          refine s_val hF (x_assign rfl) (by decide) fun a hF => ?_
          refine s_end (hK29 _ _ ?_)
          refine wp_rs fun K30 hK30 => ?_
          refine s_val hF (x_move rfl) (by decide) fun a hF => ?_
          refine s_val hF (x_neq rfl rfl rfl) (by decide) fun a hF => ?_
          refine s_end (hK30 _ _ ?_)
          refine wp_iff hF rfl (fun hc98 => ?_) (fun hc98 => ?_)
          · refine wp_rs fun K31 hK31 => ?_
            refine s_val hF (x_move rfl) (by decide) fun a hF => ?_
            refine s_val hF (x_assign rfl) (by decide) fun a hF => ?_
            refine s_end (hK31 _ _ ?_)
            refine wp_ret (inb_ret (then_ret (then_ret (inb_ret (then_ret (res_slot hF rfl rfl ⟨_, rfl, ⟨int_of (by rw [chk_in hnd, hck, chks_out hc98]), fun h => absurd (by rw [chk_in hnd, hck, chks_out hc98] at h; exact h) hc98⟩, hK⟩))))))
          · have hc0 : (chk 32 1048576 vars (d + 1) ri l).1 = 0 := by omega
            have mg := hmg hc0
            refine wp_skip (hK27 _ _ ?_)
            refine wp_region_lit ?_
            refine s_val hF (x_addn (i + 1) (by omega) (by omega) rfl rfl) (by decide) fun a hF => ?_
            refine s_val hF (x_move rfl) (by decide) fun a hF => ?_
            refine s_end (hK' _ _ (by omega) ⟨(chk 32 1048576 vars (d + 1) ri l).2, Nat.le_trans (chk_le _ _ _ _ _ _) hri, by rw [hck, chks_in hc0], mg, hB, hK, hF.sub _ rfl⟩)
        · refine wp_exit (hK23 _ _ ?_)
          refine wp_rs fun K32 hK32 => ?_
          refine s_val hF (x_assign rfl) (by decide) fun a hF => ?_
          refine s_end (hK32 _ _ ?_)
          have hnil : ls.drop i = [] := List.drop_of_length_le (by omega)
          rw [hnil] at hck
          refine wp_ret (res_slot hF rfl rfl ⟨_, rfl, ⟨int_of (by rw [chk_in hnd, hck]; rfl), fun _ => by rw [chk_in hnd, hck]; exact mg⟩, hK⟩)
      · have hq : kidsB k ls.length = false ∨ numB 1048576 k n = false := .inr (numB_no (by omega))
        refine wp_rs fun K33 hK33 => ?_
        refine s_val hF (x_fa0 fa24_0 rfl) (by decide) fun a hF => ?_
        refine s_val hF (x_load rfl (m_load flat3 (m4.cell (j := 0) rfl))) (by decide) fun a hF => ?_
        refine s_val hF (x_eql (b := false) (decide_eq_false (by omega)) rfl rfl) (by decide) fun a hF => ?_
        refine s_val hF (x_move rfl) (by decide) fun a hF => ?_
        refine s_grdn 44 hF rfl rfl (by decide) fun a hF => ?_
        refine s_grdn 44 hF rfl rfl (by decide) fun a hF => ?_
        refine s_grdn 44 hF rfl rfl (by decide) fun a hF => ?_
        refine s_grdn 44 hF rfl rfl (by decide) fun a hF => ?_
        refine s_grdu 48 hF rfl rfl (by decide) fun a hF => ?_
        refine s_grdu 48 hF rfl rfl (by decide) fun a hF => ?_
        refine s_grdu 48 hF rfl rfl (by decide) fun a hF => ?_
        refine s_grdn 44 hF rfl rfl (by decide) fun a hF => ?_
        refine s_val hF (x_pick (b := false) rfl rfl) (by decide) fun a hF => ?_
        refine s_val hF (x_move rfl) (by decide) fun a hF => ?_
        refine s_grd 54 hF rfl rfl rfl ?_
        refine s_val hF (x_fa0 fa24_0 rfl) (by decide) fun a hF => ?_
        refine s_grd 54 hF rfl rfl rfl ?_
        refine s_val hF (x_load rfl (m_load flat3 (m4.cell (j := 0) rfl))) (by decide) fun a hF => ?_
        refine s_grd 54 hF rfl rfl rfl ?_
        refine s_val hF (x_eql (b := true) (decide_eq_true (by omega)) rfl rfl) (by decide) fun a hF => ?_
        refine s_grd 54 hF rfl rfl rfl ?_
        refine s_val hF (x_move rfl) (by decide) fun a hF => ?_
        refine s_grd 58 hF rfl rfl rfl ?_
        refine s_val hF (x_fa0 fa24_1 rfl) (by decide) fun a hF => ?_
        refine s_grd 58 hF rfl rfl rfl ?_
        refine s_val hF (x_load rfl (m_load flat3 (m4.cell (j := 1) rfl))) (by decide) fun a hF => ?_
        refine s_grd 58 hF rfl rfl rfl ?_
        refine s_val hF (x_lss (b := true) (decide_eq_true (by omega)) rfl rfl) (by decide) fun a hF => ?_
        refine s_grd 58 hF rfl rfl rfl ?_
        refine s_val hF (x_move rfl) (by decide) fun a hF => ?_
        refine s_grdn 62 hF rfl rfl (by decide) fun a hF => ?_
        refine s_grdn 62 hF rfl rfl (by decide) fun a hF => ?_
        refine s_grdn 62 hF rfl rfl (by decide) fun a hF => ?_
        refine s_grd 58 hF rfl rfl rfl ?_
        refine s_val hF (x_pick (b := true) rfl rfl) (by decide) fun a hF => ?_
        refine s_grd 54 hF rfl rfl rfl ?_
        refine s_val hF (x_pick (b := true) rfl rfl) (by decide) fun a hF => ?_
        refine s_val hF (x_pick (b := false) rfl rfl) (by decide) fun a hF => ?_
        refine s_val hF (x_assign rfl) (by decide) fun a hF => ?_
        refine s_end (hK33 _ _ ?_)
        refine wp_if hF rfl ?_
        refine wp_rs fun K34 hK34 => ?_
        refine s_val hF (x_assign rfl) (by decide) fun a hF => ?_
        refine s_end (hK34 _ _ ?_)
        refine wp_ret (inb_ret (then_ret (res_slot hF rfl rfl ⟨_, rfl, ⟨int_of (chk_one (by omega) hq).symm, fun h => absurd ((chk_one (by omega) hq).symm.trans h) (by decide)⟩, hK⟩)))
      · have hq : kidsB k ls.length = false ∨ numB 1048576 k n = false := .inr (numB_no (by omega))
        refine wp_rs fun K35 hK35 => ?_
        refine s_val hF (x_fa0 fa24_0 rfl) (by decide) fun a hF => ?_
        refine s_val hF (x_load rfl (m_load flat3 (m4.cell (j := 0) rfl))) (by decide) fun a hF => ?_
        refine s_val hF (x_eql (b := false) (decide_eq_false (by omega)) rfl rfl) (by decide) fun a hF => ?_
        refine s_val hF (x_move rfl) (by decide) fun a hF => ?_
        refine s_grdn 44 hF rfl rfl (by decide) fun a hF => ?_
        refine s_grdn 44 hF rfl rfl (by decide) fun a hF => ?_
        refine s_grdn 44 hF rfl rfl (by decide) fun a hF => ?_
        refine s_grdn 44 hF rfl rfl (by decide) fun a hF => ?_
        refine s_grdu 48 hF rfl rfl (by decide) fun a hF => ?_
        refine s_grdu 48 hF rfl rfl (by decide) fun a hF => ?_
        refine s_grdu 48 hF rfl rfl (by decide) fun a hF => ?_
        refine s_grdn 44 hF rfl rfl (by decide) fun a hF => ?_
        refine s_val hF (x_pick (b := false) rfl rfl) (by decide) fun a hF => ?_
        refine s_val hF (x_move rfl) (by decide) fun a hF => ?_
        refine s_grd 54 hF rfl rfl rfl ?_
        refine s_val hF (x_fa0 fa24_0 rfl) (by decide) fun a hF => ?_
        refine s_grd 54 hF rfl rfl rfl ?_
        refine s_val hF (x_load rfl (m_load flat3 (m4.cell (j := 0) rfl))) (by decide) fun a hF => ?_
        refine s_grd 54 hF rfl rfl rfl ?_
        refine s_val hF (x_eql (b := true) (decide_eq_true (by omega)) rfl rfl) (by decide) fun a hF => ?_
        refine s_grd 54 hF rfl rfl rfl ?_
        refine s_val hF (x_move rfl) (by decide) fun a hF => ?_
        refine s_grd 58 hF rfl rfl rfl ?_
        refine s_val hF (x_fa0 fa24_1 rfl) (by decide) fun a hF => ?_
        refine s_grd 58 hF rfl rfl rfl ?_
        refine s_val hF (x_load rfl (m_load flat3 (m4.cell (j := 1) rfl))) (by decide) fun a hF => ?_
        refine s_grd 58 hF rfl rfl rfl ?_
        refine s_val hF (x_lss (b := false) (decide_eq_false (by omega)) rfl rfl) (by decide) fun a hF => ?_
        refine s_grd 58 hF rfl rfl rfl ?_
        refine s_val hF (x_move rfl) (by decide) fun a hF => ?_
        refine s_grd 62 hF rfl rfl rfl ?_
        refine s_val hF (x_fa0 fa24_1 rfl) (by decide) fun a hF => ?_
        refine s_grd 62 hF rfl rfl rfl ?_
        refine s_val hF (x_load rfl (m_load flat3 (m4.cell (j := 1) rfl))) (by decide) fun a hF => ?_
        refine s_grd 62 hF rfl rfl rfl ?_
        refine s_val hF (x_gtr (b := true) (decide_eq_true (by omega)) rfl rfl) (by decide) fun a hF => ?_
        refine s_grd 58 hF rfl rfl rfl ?_
        refine s_val hF (x_pick (b := false) rfl rfl) (by decide) fun a hF => ?_
        refine s_grd 54 hF rfl rfl rfl ?_
        refine s_val hF (x_pick (b := true) rfl rfl) (by decide) fun a hF => ?_
        refine s_val hF (x_pick (b := false) rfl rfl) (by decide) fun a hF => ?_
        refine s_val hF (x_assign rfl) (by decide) fun a hF => ?_
        refine s_end (hK35 _ _ ?_)
        refine wp_if hF rfl ?_
        refine wp_rs fun K36 hK36 => ?_
        refine s_val hF (x_assign rfl) (by decide) fun a hF => ?_
        refine s_end (hK36 _ _ ?_)
        refine wp_ret (inb_ret (then_ret (res_slot hF rfl rfl ⟨_, rfl, ⟨int_of (chk_one (by omega) hq).symm, fun h => absurd ((chk_one (by omega) hq).symm.trans h) (by decide)⟩, hK⟩)))
      · have hnb : numB 1048576 k n = true := numB_iff.2 (by omega)
        have hnd := nodeE_iff.2 ⟨hp.1, hp.2, hkl, hnb, (by omega : ¬ (k = 2 ∧ (n < 0 ∨ vars ≤ n)))⟩
        refine wp_rs fun K37 hK37 => ?_
        refine s_val hF (x_fa0 fa24_0 rfl) (by decide) fun a hF => ?_
        refine s_val hF (x_load rfl (m_load flat3 (m4.cell (j := 0) rfl))) (by decide) fun a hF => ?_
        refine s_val hF (x_eql (b := false) (decide_eq_false (by omega)) rfl rfl) (by decide) fun a hF => ?_
        refine s_val hF (x_move rfl) (by decide) fun a hF => ?_
        refine s_grdn 44 hF rfl rfl (by decide) fun a hF => ?_
        refine s_grdn 44 hF rfl rfl (by decide) fun a hF => ?_
        refine s_grdn 44 hF rfl rfl (by decide) fun a hF => ?_
        refine s_grdn 44 hF rfl rfl (by decide) fun a hF => ?_
        refine s_grdu 48 hF rfl rfl (by decide) fun a hF => ?_
        refine s_grdu 48 hF rfl rfl (by decide) fun a hF => ?_
        refine s_grdu 48 hF rfl rfl (by decide) fun a hF => ?_
        refine s_grdn 44 hF rfl rfl (by decide) fun a hF => ?_
        refine s_val hF (x_pick (b := false) rfl rfl) (by decide) fun a hF => ?_
        refine s_val hF (x_move rfl) (by decide) fun a hF => ?_
        refine s_grd 54 hF rfl rfl rfl ?_
        refine s_val hF (x_fa0 fa24_0 rfl) (by decide) fun a hF => ?_
        refine s_grd 54 hF rfl rfl rfl ?_
        refine s_val hF (x_load rfl (m_load flat3 (m4.cell (j := 0) rfl))) (by decide) fun a hF => ?_
        refine s_grd 54 hF rfl rfl rfl ?_
        refine s_val hF (x_eql (b := true) (decide_eq_true (by omega)) rfl rfl) (by decide) fun a hF => ?_
        refine s_grd 54 hF rfl rfl rfl ?_
        refine s_val hF (x_move rfl) (by decide) fun a hF => ?_
        refine s_grd 58 hF rfl rfl rfl ?_
        refine s_val hF (x_fa0 fa24_1 rfl) (by decide) fun a hF => ?_
        refine s_grd 58 hF rfl rfl rfl ?_
        refine s_val hF (x_load rfl (m_load flat3 (m4.cell (j := 1) rfl))) (by decide) fun a hF => ?_
        refine s_grd 58 hF rfl rfl rfl ?_
        refine s_val hF (x_lss (b := false) (decide_eq_false (by omega)) rfl rfl) (by decide) fun a hF => ?_
        refine s_grd 58 hF rfl rfl rfl ?_
        refine s_val hF (x_move rfl) (by decide) fun a hF => ?_
        refine s_grd 62 hF rfl rfl rfl ?_
        refine s_val hF (x_fa0 fa24_1 rfl) (by decide) fun a hF => ?_
        refine s_grd 62 hF rfl rfl rfl ?_
        refine s_val hF (x_load rfl (m_load flat3 (m4.cell (j := 1) rfl))) (by decide) fun a hF => ?_
        refine s_grd 62 hF rfl rfl rfl ?_
        refine s_val hF (x_gtr (b := false) (decide_eq_false (by omega)) rfl rfl) (by decide) fun a hF => ?_
        refine s_grd 58 hF rfl rfl rfl ?_
        refine s_val hF (x_pick (b := false) rfl rfl) (by decide) fun a hF => ?_
        refine s_grd 54 hF rfl rfl rfl ?_
        refine s_val hF (x_pick (b := true) rfl rfl) (by decide) fun a hF => ?_
        refine s_val hF (x_pick (b := false) rfl rfl) (by decide) fun a hF => ?_
        refine s_val hF (x_assign rfl) (by decide) fun a hF => ?_
        refine s_end (hK37 _ _ ?_)
        refine wp_if hF rfl ?_
        refine wp_rs fun K38 hK38 => ?_
        refine s_val hF (x_fa0 fa24_0 rfl) (by decide) fun a hF => ?_
        refine s_val hF (x_load rfl (m_load flat3 (m4.cell (j := 0) rfl))) (by decide) fun a hF => ?_
        refine s_val hF (x_eql (b := false) (decide_eq_false (by omega)) rfl rfl) (by decide) fun a hF => ?_
        refine s_val hF (x_move rfl) (by decide) fun a hF => ?_
        refine s_grdn 73 hF rfl rfl (by decide) fun a hF => ?_
        refine s_grdn 73 hF rfl rfl (by decide) fun a hF => ?_
        refine s_grdn 73 hF rfl rfl (by decide) fun a hF => ?_
        refine s_grdn 73 hF rfl rfl (by decide) fun a hF => ?_
        refine s_grdu 77 hF rfl rfl (by decide) fun a hF => ?_
        refine s_grdu 77 hF rfl rfl (by decide) fun a hF => ?_
        refine s_grdu 77 hF rfl rfl (by decide) fun a hF => ?_
        refine s_grdu 77 hF rfl rfl (by decide) fun a hF => ?_
        refine s_grdn 73 hF rfl rfl (by decide) fun a hF => ?_
        refine s_val hF (x_pick (b := false) rfl rfl) (by decide) fun a hF => ?_
        refine s_val hF (x_assign rfl) (by decide) fun a hF => ?_
        refine s_end (hK38 _ _ ?_)
        refine wp_if hF rfl ?_
        refine wp_skip (hK3 _ _ ?_)
        refine wp_seq_k fun K39 hK39 => ?_
        refine wp_rs fun K40 hK40 => ?_
        refine s_val hF (x_fa0 fa24_2 rfl) (by decide) fun a hF => ?_
        refine s_val hF (x_load rfl (m_load flat22 (m4.cell (j := 2) rfl))) (by decide) fun a hF => ?_
        refine s_val hF (x_len Try.underlying22 rfl) (by decide) fun a hF => ?_
        refine s_val hF (x_move rfl) (by decide) fun a hF => ?_
        refine s_end (hK40 _ _ ?_)
        refine wp_block ?_
        have mg : Blk w10 g 3 [.int .i64 (100 - ((r - 1 : Nat) : Int))] := by rw [show (100 : Int) - ((r - 1 : Nat) : Int) = 100 - (r : Int) + 1 by omega]; exact mg
        refine wp_up xs.length (fun i a w => ∃ ri : Nat, ri ≤ 100 ∧ chks 32 1048576 vars (d + 1) (r - 1) ls = chks 32 1048576 vars (d + 1) ri (ls.drop i) ∧ Blk w g 3 [.int .i64 (100 - (ri : Int))] ∧ Below w0.heap.size w0 w ∧ Ktw g g w1 w ∧ Fs 101 a [(87, .int .i64 (i : Int)), (86, .int .i64 (xs.length : Int)), (85, .slice av xs.length cv), (1, .int .i64 vars), (2, .int .i64 d), (3, .pointer (some ⟨g, 0, none⟩))]) ⟨r - 1, by omega, rfl, mg, hB, hK, hF.sub _ rfl⟩ ?_
        clear hF hB hK mg
        rintro i a w hi ⟨ri, hri, hck, mg, hB, hK, hF⟩ K' hK'
        have sB := hB.size
        have hgl := mg.lt
        have sK := hK.size
        have hle := kids_le hkl
        refine wp_rs fun K41 hK41 => ?_
        refine s_val hF (x_lss rfl rfl rfl) (by decide) fun a hF => ?_
        refine s_end (hK41 _ _ ?_)
        refine wp_seq_k fun K42 hK42 => ?_
        refine wp_iff hF rfl (fun hc88 => ?_) (fun hc88 => ?_)
        · obtain ⟨b, off, c, y, hve, hy, hrow⟩ := rd_row3 hR (i := i) (by omega)
          cases hve
          obtain ⟨l, hlk⟩ : ∃ l, ls[i]? = some l := ⟨_, List.getElem?_eq_getElem (by omega)⟩
          have ihy := ih i y l hy hlk
          have h1y := (hk i y l hy hlk).one1
          rw [drop_at hlk] at hck
          refine wp_skip (hK42 _ _ ?_)
          refine wp_seq_k fun K43 hK43 => ?_
          refine wp_block ?_
          refine wp_rs fun K44 hK44 => ?_
          refine s_val hF (x_ixa rfl rfl (m_ixsK i Try.underlying22 el22.size rfl (by omega))) (by decide) fun a hF => ?_
          refine s_val hF (x_ldA wide24 (hrow _ hB) rfl rfl) (by decide) fun a hF => ?_
          refine s_alloc hF (by decide) zero24 fun w18 b10 a eb10 m10 B19 zb10 hF => ?_
          have sB19 := B19.size
          have hB := hB.trans (B19.mono hB.size)
          have hK := hK.below B19
          have mg := mg.old B19
          refine s_putW hF rfl rfl (size_wide wide24) m10 rfl (one_lc h1y) fun w20 m10 o21 => ?_
          have so21 := o21.size
          have hB := hB.trans (o21.below (by omega))
          have hK := hK.only o21 (by omega)
          have mg := mg.only o21 (by omega)
          refine s_end (hK44 _ _ ?_)
          refine wp_rs fun K45 hK45 => ?_
          refine s_val hF (x_ldW wide24 m10 rfl rfl) (by decide) fun a hF => ?_
          refine s_val hF (x_move rfl) (by decide) fun a hF => ?_
          refine s_val hF (x_move rfl) (by decide) fun a hF => ?_
          refine s_val hF (x_add (by omega) (by omega) rfl rfl) (by decide) fun a hF => ?_
          refine s_val hF (x_move rfl) (by decide) fun a hF => ?_
          refine s_call (R := fun u w' => (u = .int .i64 (chk 32 1048576 vars (d + 1) ri l).1 ∧ ((chk 32 1048576 vars (d + 1) ri l).1 = 0 → Blk w' g 3 [.int .i64 (100 - ((chk 32 1048576 vars (d + 1) ri l).2 : Int))])) ∧ Ktw g g w20 w') hF [_, _, _, _] (enters_of Try.func82 (by kernel_rfl) rfl) rfl (by decide) (ihy (d + 1) ri w20 (by omega) (by omega) hri hB mg) ?_
          rintro _ w22 a ⟨⟨rfl, hmg⟩, k23⟩ hF
          have sk23 := k23.size
          have hB := k23.under hB (by omega)
          have hK := hK.trans k23 (by omega)
          have m10 := m10.k2 k23 (by omega)
          refine s_val hF (x_assign rfl) (by decide) fun a hF => ?_
          refine s_end (hK45 _ _ ?_)
          refine wp_rs fun K46 hK46 => ?_
          refine s_val hF (x_move rfl) (by decide) fun a hF => ?_
          refine s_val hF (x_neq rfl rfl rfl) (by decide) fun a hF => ?_
          refine s_end (hK46 _ _ ?_)
          refine wp_iff hF rfl (fun hc98 => ?_) (fun hc98 => ?_)
          · refine wp_rs fun K47 hK47 => ?_
            refine s_val hF (x_move rfl) (by decide) fun a hF => ?_
            refine s_val hF (x_assign rfl) (by decide) fun a hF => ?_
            refine s_end (hK47 _ _ ?_)
            refine wp_ret (inb_ret (then_ret (then_ret (inb_ret (then_ret (res_slot hF rfl rfl ⟨_, rfl, ⟨int_of (by rw [chk_in hnd, hck, chks_out hc98]), fun h => absurd (by rw [chk_in hnd, hck, chks_out hc98] at h; exact h) hc98⟩, hK⟩))))))
          · have hc0 : (chk 32 1048576 vars (d + 1) ri l).1 = 0 := by omega
            have mg := hmg hc0
            refine wp_skip (hK43 _ _ ?_)
            refine wp_region_lit ?_
            refine s_val hF (x_addn (i + 1) (by omega) (by omega) rfl rfl) (by decide) fun a hF => ?_
            refine s_val hF (x_move rfl) (by decide) fun a hF => ?_
            refine s_end (hK' _ _ (by omega) ⟨(chk 32 1048576 vars (d + 1) ri l).2, Nat.le_trans (chk_le _ _ _ _ _ _) hri, by rw [hck, chks_in hc0], mg, hB, hK, hF.sub _ rfl⟩)
        · refine wp_exit (hK39 _ _ ?_)
          refine wp_rs fun K48 hK48 => ?_
          refine s_val hF (x_assign rfl) (by decide) fun a hF => ?_
          refine s_end (hK48 _ _ ?_)
          have hnil : ls.drop i = [] := List.drop_of_length_le (by omega)
          rw [hnil] at hck
          refine wp_ret (res_slot hF rfl rfl ⟨_, rfl, ⟨int_of (by rw [chk_in hnd, hck]; rfl), fun _ => by rw [chk_in hnd, hck]; exact mg⟩, hK⟩)
      · have hnb : numB 1048576 k n = true := numB_iff.2 (by omega)
        refine wp_rs fun K49 hK49 => ?_
        refine s_val hF (x_fa0 fa24_0 rfl) (by decide) fun a hF => ?_
        refine s_val hF (x_load rfl (m_load flat3 (m4.cell (j := 0) rfl))) (by decide) fun a hF => ?_
        refine s_val hF (x_eql (b := false) (decide_eq_false (by omega)) rfl rfl) (by decide) fun a hF => ?_
        refine s_val hF (x_move rfl) (by decide) fun a hF => ?_
        refine s_grdn 44 hF rfl rfl (by decide) fun a hF => ?_
        refine s_grdn 44 hF rfl rfl (by decide) fun a hF => ?_
        refine s_grdn 44 hF rfl rfl (by decide) fun a hF => ?_
        refine s_grdn 44 hF rfl rfl (by decide) fun a hF => ?_
        refine s_grdu 48 hF rfl rfl (by decide) fun a hF => ?_
        refine s_grdu 48 hF rfl rfl (by decide) fun a hF => ?_
        refine s_grdu 48 hF rfl rfl (by decide) fun a hF => ?_
        refine s_grdn 44 hF rfl rfl (by decide) fun a hF => ?_
        refine s_val hF (x_pick (b := false) rfl rfl) (by decide) fun a hF => ?_
        refine s_val hF (x_move rfl) (by decide) fun a hF => ?_
        refine s_grd 54 hF rfl rfl rfl ?_
        refine s_val hF (x_fa0 fa24_0 rfl) (by decide) fun a hF => ?_
        refine s_grd 54 hF rfl rfl rfl ?_
        refine s_val hF (x_load rfl (m_load flat3 (m4.cell (j := 0) rfl))) (by decide) fun a hF => ?_
        refine s_grd 54 hF rfl rfl rfl ?_
        refine s_val hF (x_eql (b := false) (decide_eq_false (by omega)) rfl rfl) (by decide) fun a hF => ?_
        refine s_grd 54 hF rfl rfl rfl ?_
        refine s_val hF (x_move rfl) (by decide) fun a hF => ?_
        refine s_grdn 58 hF rfl rfl (by decide) fun a hF => ?_
        refine s_grdn 58 hF rfl rfl (by decide) fun a hF => ?_
        refine s_grdn 58 hF rfl rfl (by decide) fun a hF => ?_
        refine s_grdn 58 hF rfl rfl (by decide) fun a hF => ?_
        refine s_grdu 62 hF rfl rfl (by decide) fun a hF => ?_
        refine s_grdu 62 hF rfl rfl (by decide) fun a hF => ?_
        refine s_grdu 62 hF rfl rfl (by decide) fun a hF => ?_
        refine s_grdn 58 hF rfl rfl (by decide) fun a hF => ?_
        refine s_grd 54 hF rfl rfl rfl ?_
        refine s_val hF (x_pick (b := false) rfl rfl) (by decide) fun a hF => ?_
        refine s_val hF (x_pick (b := false) rfl rfl) (by decide) fun a hF => ?_
        refine s_val hF (x_assign rfl) (by decide) fun a hF => ?_
        refine s_end (hK49 _ _ ?_)
        refine wp_if hF rfl ?_
        refine wp_rs fun K50 hK50 => ?_
        refine s_val hF (x_fa0 fa24_0 rfl) (by decide) fun a hF => ?_
        refine s_val hF (x_load rfl (m_load flat3 (m4.cell (j := 0) rfl))) (by decide) fun a hF => ?_
        refine s_val hF (x_eql (b := true) (decide_eq_true (by omega)) rfl rfl) (by decide) fun a hF => ?_
        refine s_val hF (x_move rfl) (by decide) fun a hF => ?_
        refine s_grd 73 hF rfl rfl rfl ?_
        refine s_val hF (x_fa0 fa24_1 rfl) (by decide) fun a hF => ?_
        refine s_grd 73 hF rfl rfl rfl ?_
        refine s_val hF (x_load rfl (m_load flat3 (m4.cell (j := 1) rfl))) (by decide) fun a hF => ?_
        refine s_grd 73 hF rfl rfl rfl ?_
        refine s_val hF (x_lss (b := true) (decide_eq_true (by omega)) rfl rfl) (by decide) fun a hF => ?_
        refine s_grd 73 hF rfl rfl rfl ?_
        refine s_val hF (x_move rfl) (by decide) fun a hF => ?_
        refine s_grdn 77 hF rfl rfl (by decide) fun a hF => ?_
        refine s_grdn 77 hF rfl rfl (by decide) fun a hF => ?_
        refine s_grdn 77 hF rfl rfl (by decide) fun a hF => ?_
        refine s_grdn 77 hF rfl rfl (by decide) fun a hF => ?_
        refine s_grd 73 hF rfl rfl rfl ?_
        refine s_val hF (x_pick (b := true) rfl rfl) (by decide) fun a hF => ?_
        refine s_val hF (x_pick (b := true) rfl rfl) (by decide) fun a hF => ?_
        refine s_val hF (x_assign rfl) (by decide) fun a hF => ?_
        refine s_end (hK50 _ _ ?_)
        refine wp_if hF rfl ?_
        refine wp_rs fun K51 hK51 => ?_
        refine s_val hF (x_assign rfl) (by decide) fun a hF => ?_
        refine s_end (hK51 _ _ ?_)
        refine wp_ret (inb_ret (then_ret (res_slot hF rfl rfl ⟨_, rfl, ⟨int_of (chk_ten (by omega) hkl hnb (by omega)).symm, fun h => absurd ((chk_ten (by omega) hkl hnb (by omega)).symm.trans h) (by decide)⟩, hK⟩)))
      · have hnb : numB 1048576 k n = true := numB_iff.2 (by omega)
        refine wp_rs fun K52 hK52 => ?_
        refine s_val hF (x_fa0 fa24_0 rfl) (by decide) fun a hF => ?_
        refine s_val hF (x_load rfl (m_load flat3 (m4.cell (j := 0) rfl))) (by decide) fun a hF => ?_
        refine s_val hF (x_eql (b := false) (decide_eq_false (by omega)) rfl rfl) (by decide) fun a hF => ?_
        refine s_val hF (x_move rfl) (by decide) fun a hF => ?_
        refine s_grdn 44 hF rfl rfl (by decide) fun a hF => ?_
        refine s_grdn 44 hF rfl rfl (by decide) fun a hF => ?_
        refine s_grdn 44 hF rfl rfl (by decide) fun a hF => ?_
        refine s_grdn 44 hF rfl rfl (by decide) fun a hF => ?_
        refine s_grdu 48 hF rfl rfl (by decide) fun a hF => ?_
        refine s_grdu 48 hF rfl rfl (by decide) fun a hF => ?_
        refine s_grdu 48 hF rfl rfl (by decide) fun a hF => ?_
        refine s_grdn 44 hF rfl rfl (by decide) fun a hF => ?_
        refine s_val hF (x_pick (b := false) rfl rfl) (by decide) fun a hF => ?_
        refine s_val hF (x_move rfl) (by decide) fun a hF => ?_
        refine s_grd 54 hF rfl rfl rfl ?_
        refine s_val hF (x_fa0 fa24_0 rfl) (by decide) fun a hF => ?_
        refine s_grd 54 hF rfl rfl rfl ?_
        refine s_val hF (x_load rfl (m_load flat3 (m4.cell (j := 0) rfl))) (by decide) fun a hF => ?_
        refine s_grd 54 hF rfl rfl rfl ?_
        refine s_val hF (x_eql (b := false) (decide_eq_false (by omega)) rfl rfl) (by decide) fun a hF => ?_
        refine s_grd 54 hF rfl rfl rfl ?_
        refine s_val hF (x_move rfl) (by decide) fun a hF => ?_
        refine s_grdn 58 hF rfl rfl (by decide) fun a hF => ?_
        refine s_grdn 58 hF rfl rfl (by decide) fun a hF => ?_
        refine s_grdn 58 hF rfl rfl (by decide) fun a hF => ?_
        refine s_grdn 58 hF rfl rfl (by decide) fun a hF => ?_
        refine s_grdu 62 hF rfl rfl (by decide) fun a hF => ?_
        refine s_grdu 62 hF rfl rfl (by decide) fun a hF => ?_
        refine s_grdu 62 hF rfl rfl (by decide) fun a hF => ?_
        refine s_grdn 58 hF rfl rfl (by decide) fun a hF => ?_
        refine s_grd 54 hF rfl rfl rfl ?_
        refine s_val hF (x_pick (b := false) rfl rfl) (by decide) fun a hF => ?_
        refine s_val hF (x_pick (b := false) rfl rfl) (by decide) fun a hF => ?_
        refine s_val hF (x_assign rfl) (by decide) fun a hF => ?_
        refine s_end (hK52 _ _ ?_)
        refine wp_if hF rfl ?_
        refine wp_rs fun K53 hK53 => ?_
        refine s_val hF (x_fa0 fa24_0 rfl) (by decide) fun a hF => ?_
        refine s_val hF (x_load rfl (m_load flat3 (m4.cell (j := 0) rfl))) (by decide) fun a hF => ?_
        refine s_val hF (x_eql (b := true) (decide_eq_true (by omega)) rfl rfl) (by decide) fun a hF => ?_
        refine s_val hF (x_move rfl) (by decide) fun a hF => ?_
        refine s_grd 73 hF rfl rfl rfl ?_
        refine s_val hF (x_fa0 fa24_1 rfl) (by decide) fun a hF => ?_
        refine s_grd 73 hF rfl rfl rfl ?_
        refine s_val hF (x_load rfl (m_load flat3 (m4.cell (j := 1) rfl))) (by decide) fun a hF => ?_
        refine s_grd 73 hF rfl rfl rfl ?_
        refine s_val hF (x_lss (b := false) (decide_eq_false (by omega)) rfl rfl) (by decide) fun a hF => ?_
        refine s_grd 73 hF rfl rfl rfl ?_
        refine s_val hF (x_move rfl) (by decide) fun a hF => ?_
        refine s_grd 77 hF rfl rfl rfl ?_
        refine s_val hF (x_fa0 fa24_1 rfl) (by decide) fun a hF => ?_
        refine s_grd 77 hF rfl rfl rfl ?_
        refine s_val hF (x_load rfl (m_load flat3 (m4.cell (j := 1) rfl))) (by decide) fun a hF => ?_
        refine s_grd 77 hF rfl rfl rfl ?_
        refine s_val hF (x_move rfl) (by decide) fun a hF => ?_
        refine s_grd 77 hF rfl rfl rfl ?_
        refine s_val hF (x_geq (b := true) (decide_eq_true (by omega)) rfl rfl) (by decide) fun a hF => ?_
        refine s_grd 73 hF rfl rfl rfl ?_
        refine s_val hF (x_pick (b := false) rfl rfl) (by decide) fun a hF => ?_
        refine s_val hF (x_pick (b := true) rfl rfl) (by decide) fun a hF => ?_
        refine s_val hF (x_assign rfl) (by decide) fun a hF => ?_
        refine s_end (hK53 _ _ ?_)
        refine wp_if hF rfl ?_
        refine wp_rs fun K54 hK54 => ?_
        refine s_val hF (x_assign rfl) (by decide) fun a hF => ?_
        refine s_end (hK54 _ _ ?_)
        refine wp_ret (inb_ret (then_ret (res_slot hF rfl rfl ⟨_, rfl, ⟨int_of (chk_ten (by omega) hkl hnb (by omega)).symm, fun h => absurd ((chk_ten (by omega) hkl hnb (by omega)).symm.trans h) (by decide)⟩, hK⟩)))
      · have hnb : numB 1048576 k n = true := numB_iff.2 (by omega)
        have hnd := nodeE_iff.2 ⟨hp.1, hp.2, hkl, hnb, (by omega : ¬ (k = 2 ∧ (n < 0 ∨ vars ≤ n)))⟩
        refine wp_rs fun K55 hK55 => ?_
        refine s_val hF (x_fa0 fa24_0 rfl) (by decide) fun a hF => ?_
        refine s_val hF (x_load rfl (m_load flat3 (m4.cell (j := 0) rfl))) (by decide) fun a hF => ?_
        refine s_val hF (x_eql (b := false) (decide_eq_false (by omega)) rfl rfl) (by decide) fun a hF => ?_
        refine s_val hF (x_move rfl) (by decide) fun a hF => ?_
        refine s_grdn 44 hF rfl rfl (by decide) fun a hF => ?_
        refine s_grdn 44 hF rfl rfl (by decide) fun a hF => ?_
        refine s_grdn 44 hF rfl rfl (by decide) fun a hF => ?_
        refine s_grdn 44 hF rfl rfl (by decide) fun a hF => ?_
        refine s_grdu 48 hF rfl rfl (by decide) fun a hF => ?_
        refine s_grdu 48 hF rfl rfl (by decide) fun a hF => ?_
        refine s_grdu 48 hF rfl rfl (by decide) fun a hF => ?_
        refine s_grdn 44 hF rfl rfl (by decide) fun a hF => ?_
        refine s_val hF (x_pick (b := false) rfl rfl) (by decide) fun a hF => ?_
        refine s_val hF (x_move rfl) (by decide) fun a hF => ?_
        refine s_grd 54 hF rfl rfl rfl ?_
        refine s_val hF (x_fa0 fa24_0 rfl) (by decide) fun a hF => ?_
        refine s_grd 54 hF rfl rfl rfl ?_
        refine s_val hF (x_load rfl (m_load flat3 (m4.cell (j := 0) rfl))) (by decide) fun a hF => ?_
        refine s_grd 54 hF rfl rfl rfl ?_
        refine s_val hF (x_eql (b := false) (decide_eq_false (by omega)) rfl rfl) (by decide) fun a hF => ?_
        refine s_grd 54 hF rfl rfl rfl ?_
        refine s_val hF (x_move rfl) (by decide) fun a hF => ?_
        refine s_grdn 58 hF rfl rfl (by decide) fun a hF => ?_
        refine s_grdn 58 hF rfl rfl (by decide) fun a hF => ?_
        refine s_grdn 58 hF rfl rfl (by decide) fun a hF => ?_
        refine s_grdn 58 hF rfl rfl (by decide) fun a hF => ?_
        refine s_grdu 62 hF rfl rfl (by decide) fun a hF => ?_
        refine s_grdu 62 hF rfl rfl (by decide) fun a hF => ?_
        refine s_grdu 62 hF rfl rfl (by decide) fun a hF => ?_
        refine s_grdn 58 hF rfl rfl (by decide) fun a hF => ?_
        refine s_grd 54 hF rfl rfl rfl ?_
        refine s_val hF (x_pick (b := false) rfl rfl) (by decide) fun a hF => ?_
        refine s_val hF (x_pick (b := false) rfl rfl) (by decide) fun a hF => ?_
        refine s_val hF (x_assign rfl) (by decide) fun a hF => ?_
        refine s_end (hK55 _ _ ?_)
        refine wp_if hF rfl ?_
        refine wp_rs fun K56 hK56 => ?_
        refine s_val hF (x_fa0 fa24_0 rfl) (by decide) fun a hF => ?_
        refine s_val hF (x_load rfl (m_load flat3 (m4.cell (j := 0) rfl))) (by decide) fun a hF => ?_
        refine s_val hF (x_eql (b := true) (decide_eq_true (by omega)) rfl rfl) (by decide) fun a hF => ?_
        refine s_val hF (x_move rfl) (by decide) fun a hF => ?_
        refine s_grd 73 hF rfl rfl rfl ?_
        refine s_val hF (x_fa0 fa24_1 rfl) (by decide) fun a hF => ?_
        refine s_grd 73 hF rfl rfl rfl ?_
        refine s_val hF (x_load rfl (m_load flat3 (m4.cell (j := 1) rfl))) (by decide) fun a hF => ?_
        refine s_grd 73 hF rfl rfl rfl ?_
        refine s_val hF (x_lss (b := false) (decide_eq_false (by omega)) rfl rfl) (by decide) fun a hF => ?_
        refine s_grd 73 hF rfl rfl rfl ?_
        refine s_val hF (x_move rfl) (by decide) fun a hF => ?_
        refine s_grd 77 hF rfl rfl rfl ?_
        refine s_val hF (x_fa0 fa24_1 rfl) (by decide) fun a hF => ?_
        refine s_grd 77 hF rfl rfl rfl ?_
        refine s_val hF (x_load rfl (m_load flat3 (m4.cell (j := 1) rfl))) (by decide) fun a hF => ?_
        refine s_grd 77 hF rfl rfl rfl ?_
        refine s_val hF (x_move rfl) (by decide) fun a hF => ?_
        refine s_grd 77 hF rfl rfl rfl ?_
        refine s_val hF (x_geq (b := false) (decide_eq_false (by omega)) rfl rfl) (by decide) fun a hF => ?_
        refine s_grd 73 hF rfl rfl rfl ?_
        refine s_val hF (x_pick (b := false) rfl rfl) (by decide) fun a hF => ?_
        refine s_val hF (x_pick (b := true) rfl rfl) (by decide) fun a hF => ?_
        refine s_val hF (x_assign rfl) (by decide) fun a hF => ?_
        refine s_end (hK56 _ _ ?_)
        refine wp_if hF rfl ?_
        refine wp_skip (hK3 _ _ ?_)
        refine wp_seq_k fun K57 hK57 => ?_
        refine wp_rs fun K58 hK58 => ?_
        refine s_val hF (x_fa0 fa24_2 rfl) (by decide) fun a hF => ?_
        refine s_val hF (x_load rfl (m_load flat22 (m4.cell (j := 2) rfl))) (by decide) fun a hF => ?_
        refine s_val hF (x_len Try.underlying22 rfl) (by decide) fun a hF => ?_
        refine s_val hF (x_move rfl) (by decide) fun a hF => ?_
        refine s_end (hK58 _ _ ?_)
        refine wp_block ?_
        have mg : Blk w10 g 3 [.int .i64 (100 - ((r - 1 : Nat) : Int))] := by rw [show (100 : Int) - ((r - 1 : Nat) : Int) = 100 - (r : Int) + 1 by omega]; exact mg
        refine wp_up xs.length (fun i a w => ∃ ri : Nat, ri ≤ 100 ∧ chks 32 1048576 vars (d + 1) (r - 1) ls = chks 32 1048576 vars (d + 1) ri (ls.drop i) ∧ Blk w g 3 [.int .i64 (100 - (ri : Int))] ∧ Below w0.heap.size w0 w ∧ Ktw g g w1 w ∧ Fs 101 a [(87, .int .i64 (i : Int)), (86, .int .i64 (xs.length : Int)), (85, .slice av xs.length cv), (1, .int .i64 vars), (2, .int .i64 d), (3, .pointer (some ⟨g, 0, none⟩))]) ⟨r - 1, by omega, rfl, mg, hB, hK, hF.sub _ rfl⟩ ?_
        clear hF hB hK mg
        rintro i a w hi ⟨ri, hri, hck, mg, hB, hK, hF⟩ K' hK'
        have sB := hB.size
        have hgl := mg.lt
        have sK := hK.size
        have hle := kids_le hkl
        refine wp_rs fun K59 hK59 => ?_
        refine s_val hF (x_lss rfl rfl rfl) (by decide) fun a hF => ?_
        refine s_end (hK59 _ _ ?_)
        refine wp_seq_k fun K60 hK60 => ?_
        refine wp_iff hF rfl (fun hc88 => ?_) (fun hc88 => ?_)
        · obtain ⟨b, off, c, y, hve, hy, hrow⟩ := rd_row3 hR (i := i) (by omega)
          cases hve
          obtain ⟨l, hlk⟩ : ∃ l, ls[i]? = some l := ⟨_, List.getElem?_eq_getElem (by omega)⟩
          have ihy := ih i y l hy hlk
          have h1y := (hk i y l hy hlk).one1
          rw [drop_at hlk] at hck
          refine wp_skip (hK60 _ _ ?_)
          refine wp_seq_k fun K61 hK61 => ?_
          refine wp_block ?_
          refine wp_rs fun K62 hK62 => ?_
          refine s_val hF (x_ixa rfl rfl (m_ixsK i Try.underlying22 el22.size rfl (by omega))) (by decide) fun a hF => ?_
          refine s_val hF (x_ldA wide24 (hrow _ hB) rfl rfl) (by decide) fun a hF => ?_
          refine s_alloc hF (by decide) zero24 fun w24 b10 a eb10 m10 B25 zb10 hF => ?_
          have sB25 := B25.size
          have hB := hB.trans (B25.mono hB.size)
          have hK := hK.below B25
          have mg := mg.old B25
          refine s_putW hF rfl rfl (size_wide wide24) m10 rfl (one_lc h1y) fun w26 m10 o27 => ?_
          have so27 := o27.size
          have hB := hB.trans (o27.below (by omega))
          have hK := hK.only o27 (by omega)
          have mg := mg.only o27 (by omega)
          refine s_end (hK62 _ _ ?_)
          refine wp_rs fun K63 hK63 => ?_
          refine s_val hF (x_ldW wide24 m10 rfl rfl) (by decide) fun a hF => ?_
          refine s_val hF (x_move rfl) (by decide) fun a hF => ?_
          refine s_val hF (x_move rfl) (by decide) fun a hF => ?_
          refine s_val hF (x_add (by omega) (by omega) rfl rfl) (by decide) fun a hF => ?_
          refine s_val hF (x_move rfl) (by decide) fun a hF => ?_
          refine s_call (R := fun u w' => (u = .int .i64 (chk 32 1048576 vars (d + 1) ri l).1 ∧ ((chk 32 1048576 vars (d + 1) ri l).1 = 0 → Blk w' g 3 [.int .i64 (100 - ((chk 32 1048576 vars (d + 1) ri l).2 : Int))])) ∧ Ktw g g w26 w') hF [_, _, _, _] (enters_of Try.func82 (by kernel_rfl) rfl) rfl (by decide) (ihy (d + 1) ri w26 (by omega) (by omega) hri hB mg) ?_
          rintro _ w28 a ⟨⟨rfl, hmg⟩, k29⟩ hF
          have sk29 := k29.size
          have hB := k29.under hB (by omega)
          have hK := hK.trans k29 (by omega)
          have m10 := m10.k2 k29 (by omega)
          refine s_val hF (x_assign rfl) (by decide) fun a hF => ?_
          refine s_end (hK63 _ _ ?_)
          refine wp_rs fun K64 hK64 => ?_
          refine s_val hF (x_move rfl) (by decide) fun a hF => ?_
          refine s_val hF (x_neq rfl rfl rfl) (by decide) fun a hF => ?_
          refine s_end (hK64 _ _ ?_)
          refine wp_iff hF rfl (fun hc98 => ?_) (fun hc98 => ?_)
          · refine wp_rs fun K65 hK65 => ?_
            refine s_val hF (x_move rfl) (by decide) fun a hF => ?_
            refine s_val hF (x_assign rfl) (by decide) fun a hF => ?_
            refine s_end (hK65 _ _ ?_)
            refine wp_ret (inb_ret (then_ret (then_ret (inb_ret (then_ret (res_slot hF rfl rfl ⟨_, rfl, ⟨int_of (by rw [chk_in hnd, hck, chks_out hc98]), fun h => absurd (by rw [chk_in hnd, hck, chks_out hc98] at h; exact h) hc98⟩, hK⟩))))))
          · have hc0 : (chk 32 1048576 vars (d + 1) ri l).1 = 0 := by omega
            have mg := hmg hc0
            refine wp_skip (hK61 _ _ ?_)
            refine wp_region_lit ?_
            refine s_val hF (x_addn (i + 1) (by omega) (by omega) rfl rfl) (by decide) fun a hF => ?_
            refine s_val hF (x_move rfl) (by decide) fun a hF => ?_
            refine s_end (hK' _ _ (by omega) ⟨(chk 32 1048576 vars (d + 1) ri l).2, Nat.le_trans (chk_le _ _ _ _ _ _) hri, by rw [hck, chks_in hc0], mg, hB, hK, hF.sub _ rfl⟩)
        · refine wp_exit (hK57 _ _ ?_)
          refine wp_rs fun K66 hK66 => ?_
          refine s_val hF (x_assign rfl) (by decide) fun a hF => ?_
          refine s_end (hK66 _ _ ?_)
          have hnil : ls.drop i = [] := List.drop_of_length_le (by omega)
          rw [hnil] at hck
          refine wp_ret (res_slot hF rfl rfl ⟨_, rfl, ⟨int_of (by rw [chk_in hnd, hck]; rfl), fun _ => by rw [chk_in hnd, hck]; exact mg⟩, hK⟩)
      · have hnb : numB 1048576 k n = true := numB_iff.2 (by omega)
        have hnd := nodeE_iff.2 ⟨hp.1, hp.2, hkl, hnb, (by omega : ¬ (k = 2 ∧ (n < 0 ∨ vars ≤ n)))⟩
        refine wp_rs fun K67 hK67 => ?_
        refine s_val hF (x_fa0 fa24_0 rfl) (by decide) fun a hF => ?_
        refine s_val hF (x_load rfl (m_load flat3 (m4.cell (j := 0) rfl))) (by decide) fun a hF => ?_
        refine s_val hF (x_eql (b := false) (decide_eq_false (by omega)) rfl rfl) (by decide) fun a hF => ?_
        refine s_val hF (x_move rfl) (by decide) fun a hF => ?_
        refine s_grdn 44 hF rfl rfl (by decide) fun a hF => ?_
        refine s_grdn 44 hF rfl rfl (by decide) fun a hF => ?_
        refine s_grdn 44 hF rfl rfl (by decide) fun a hF => ?_
        refine s_grdn 44 hF rfl rfl (by decide) fun a hF => ?_
        refine s_grdu 48 hF rfl rfl (by decide) fun a hF => ?_
        refine s_grdu 48 hF rfl rfl (by decide) fun a hF => ?_
        refine s_grdu 48 hF rfl rfl (by decide) fun a hF => ?_
        refine s_grdn 44 hF rfl rfl (by decide) fun a hF => ?_
        refine s_val hF (x_pick (b := false) rfl rfl) (by decide) fun a hF => ?_
        refine s_val hF (x_move rfl) (by decide) fun a hF => ?_
        refine s_grd 54 hF rfl rfl rfl ?_
        refine s_val hF (x_fa0 fa24_0 rfl) (by decide) fun a hF => ?_
        refine s_grd 54 hF rfl rfl rfl ?_
        refine s_val hF (x_load rfl (m_load flat3 (m4.cell (j := 0) rfl))) (by decide) fun a hF => ?_
        refine s_grd 54 hF rfl rfl rfl ?_
        refine s_val hF (x_eql (b := false) (decide_eq_false (by omega)) rfl rfl) (by decide) fun a hF => ?_
        refine s_grd 54 hF rfl rfl rfl ?_
        refine s_val hF (x_move rfl) (by decide) fun a hF => ?_
        refine s_grdn 58 hF rfl rfl (by decide) fun a hF => ?_
        refine s_grdn 58 hF rfl rfl (by decide) fun a hF => ?_
        refine s_grdn 58 hF rfl rfl (by decide) fun a hF => ?_
        refine s_grdn 58 hF rfl rfl (by decide) fun a hF => ?_
        refine s_grdu 62 hF rfl rfl (by decide) fun a hF => ?_
        refine s_grdu 62 hF rfl rfl (by decide) fun a hF => ?_
        refine s_grdu 62 hF rfl rfl (by decide) fun a hF => ?_
        refine s_grdn 58 hF rfl rfl (by decide) fun a hF => ?_
        refine s_grd 54 hF rfl rfl rfl ?_
        refine s_val hF (x_pick (b := false) rfl rfl) (by decide) fun a hF => ?_
        refine s_val hF (x_pick (b := false) rfl rfl) (by decide) fun a hF => ?_
        refine s_val hF (x_assign rfl) (by decide) fun a hF => ?_
        refine s_end (hK67 _ _ ?_)
        refine wp_if hF rfl ?_
        refine wp_rs fun K68 hK68 => ?_
        refine s_val hF (x_fa0 fa24_0 rfl) (by decide) fun a hF => ?_
        refine s_val hF (x_load rfl (m_load flat3 (m4.cell (j := 0) rfl))) (by decide) fun a hF => ?_
        refine s_val hF (x_eql (b := false) (decide_eq_false (by omega)) rfl rfl) (by decide) fun a hF => ?_
        refine s_val hF (x_move rfl) (by decide) fun a hF => ?_
        refine s_grdn 73 hF rfl rfl (by decide) fun a hF => ?_
        refine s_grdn 73 hF rfl rfl (by decide) fun a hF => ?_
        refine s_grdn 73 hF rfl rfl (by decide) fun a hF => ?_
        refine s_grdn 73 hF rfl rfl (by decide) fun a hF => ?_
        refine s_grdu 77 hF rfl rfl (by decide) fun a hF => ?_
        refine s_grdu 77 hF rfl rfl (by decide) fun a hF => ?_
        refine s_grdu 77 hF rfl rfl (by decide) fun a hF => ?_
        refine s_grdu 77 hF rfl rfl (by decide) fun a hF => ?_
        refine s_grdn 73 hF rfl rfl (by decide) fun a hF => ?_
        refine s_val hF (x_pick (b := false) rfl rfl) (by decide) fun a hF => ?_
        refine s_val hF (x_assign rfl) (by decide) fun a hF => ?_
        refine s_end (hK68 _ _ ?_)
        refine wp_if hF rfl ?_
        refine wp_skip (hK3 _ _ ?_)
        refine wp_seq_k fun K69 hK69 => ?_
        refine wp_rs fun K70 hK70 => ?_
        refine s_val hF (x_fa0 fa24_2 rfl) (by decide) fun a hF => ?_
        refine s_val hF (x_load rfl (m_load flat22 (m4.cell (j := 2) rfl))) (by decide) fun a hF => ?_
        refine s_val hF (x_len Try.underlying22 rfl) (by decide) fun a hF => ?_
        refine s_val hF (x_move rfl) (by decide) fun a hF => ?_
        refine s_end (hK70 _ _ ?_)
        refine wp_block ?_
        have mg : Blk w10 g 3 [.int .i64 (100 - ((r - 1 : Nat) : Int))] := by rw [show (100 : Int) - ((r - 1 : Nat) : Int) = 100 - (r : Int) + 1 by omega]; exact mg
        refine wp_up xs.length (fun i a w => ∃ ri : Nat, ri ≤ 100 ∧ chks 32 1048576 vars (d + 1) (r - 1) ls = chks 32 1048576 vars (d + 1) ri (ls.drop i) ∧ Blk w g 3 [.int .i64 (100 - (ri : Int))] ∧ Below w0.heap.size w0 w ∧ Ktw g g w1 w ∧ Fs 101 a [(87, .int .i64 (i : Int)), (86, .int .i64 (xs.length : Int)), (85, .slice av xs.length cv), (1, .int .i64 vars), (2, .int .i64 d), (3, .pointer (some ⟨g, 0, none⟩))]) ⟨r - 1, by omega, rfl, mg, hB, hK, hF.sub _ rfl⟩ ?_
        clear hF hB hK mg
        rintro i a w hi ⟨ri, hri, hck, mg, hB, hK, hF⟩ K' hK'
        have sB := hB.size
        have hgl := mg.lt
        have sK := hK.size
        have hle := kids_le hkl
        refine wp_rs fun K71 hK71 => ?_
        refine s_val hF (x_lss rfl rfl rfl) (by decide) fun a hF => ?_
        refine s_end (hK71 _ _ ?_)
        refine wp_seq_k fun K72 hK72 => ?_
        refine wp_iff hF rfl (fun hc88 => ?_) (fun hc88 => ?_)
        · obtain ⟨b, off, c, y, hve, hy, hrow⟩ := rd_row3 hR (i := i) (by omega)
          cases hve
          obtain ⟨l, hlk⟩ : ∃ l, ls[i]? = some l := ⟨_, List.getElem?_eq_getElem (by omega)⟩
          have ihy := ih i y l hy hlk
          have h1y := (hk i y l hy hlk).one1
          rw [drop_at hlk] at hck
          refine wp_skip (hK72 _ _ ?_)
          refine wp_seq_k fun K73 hK73 => ?_
          refine wp_block ?_
          refine wp_rs fun K74 hK74 => ?_
          refine s_val hF (x_ixa rfl rfl (m_ixsK i Try.underlying22 el22.size rfl (by omega))) (by decide) fun a hF => ?_
          refine s_val hF (x_ldA wide24 (hrow _ hB) rfl rfl) (by decide) fun a hF => ?_
          refine s_alloc hF (by decide) zero24 fun w30 b10 a eb10 m10 B31 zb10 hF => ?_
          have sB31 := B31.size
          have hB := hB.trans (B31.mono hB.size)
          have hK := hK.below B31
          have mg := mg.old B31
          refine s_putW hF rfl rfl (size_wide wide24) m10 rfl (one_lc h1y) fun w32 m10 o33 => ?_
          have so33 := o33.size
          have hB := hB.trans (o33.below (by omega))
          have hK := hK.only o33 (by omega)
          have mg := mg.only o33 (by omega)
          refine s_end (hK74 _ _ ?_)
          refine wp_rs fun K75 hK75 => ?_
          refine s_val hF (x_ldW wide24 m10 rfl rfl) (by decide) fun a hF => ?_
          refine s_val hF (x_move rfl) (by decide) fun a hF => ?_
          refine s_val hF (x_move rfl) (by decide) fun a hF => ?_
          refine s_val hF (x_add (by omega) (by omega) rfl rfl) (by decide) fun a hF => ?_
          refine s_val hF (x_move rfl) (by decide) fun a hF => ?_
          refine s_call (R := fun u w' => (u = .int .i64 (chk 32 1048576 vars (d + 1) ri l).1 ∧ ((chk 32 1048576 vars (d + 1) ri l).1 = 0 → Blk w' g 3 [.int .i64 (100 - ((chk 32 1048576 vars (d + 1) ri l).2 : Int))])) ∧ Ktw g g w32 w') hF [_, _, _, _] (enters_of Try.func82 (by kernel_rfl) rfl) rfl (by decide) (ihy (d + 1) ri w32 (by omega) (by omega) hri hB mg) ?_
          rintro _ w34 a ⟨⟨rfl, hmg⟩, k35⟩ hF
          have sk35 := k35.size
          have hB := k35.under hB (by omega)
          have hK := hK.trans k35 (by omega)
          have m10 := m10.k2 k35 (by omega)
          refine s_val hF (x_assign rfl) (by decide) fun a hF => ?_
          refine s_end (hK75 _ _ ?_)
          refine wp_rs fun K76 hK76 => ?_
          refine s_val hF (x_move rfl) (by decide) fun a hF => ?_
          refine s_val hF (x_neq rfl rfl rfl) (by decide) fun a hF => ?_
          refine s_end (hK76 _ _ ?_)
          refine wp_iff hF rfl (fun hc98 => ?_) (fun hc98 => ?_)
          · refine wp_rs fun K77 hK77 => ?_
            refine s_val hF (x_move rfl) (by decide) fun a hF => ?_
            refine s_val hF (x_assign rfl) (by decide) fun a hF => ?_
            refine s_end (hK77 _ _ ?_)
            refine wp_ret (inb_ret (then_ret (then_ret (inb_ret (then_ret (res_slot hF rfl rfl ⟨_, rfl, ⟨int_of (by rw [chk_in hnd, hck, chks_out hc98]), fun h => absurd (by rw [chk_in hnd, hck, chks_out hc98] at h; exact h) hc98⟩, hK⟩))))))
          · have hc0 : (chk 32 1048576 vars (d + 1) ri l).1 = 0 := by omega
            have mg := hmg hc0
            refine wp_skip (hK73 _ _ ?_)
            refine wp_region_lit ?_
            refine s_val hF (x_addn (i + 1) (by omega) (by omega) rfl rfl) (by decide) fun a hF => ?_
            refine s_val hF (x_move rfl) (by decide) fun a hF => ?_
            refine s_end (hK' _ _ (by omega) ⟨(chk 32 1048576 vars (d + 1) ri l).2, Nat.le_trans (chk_le _ _ _ _ _ _) hri, by rw [hck, chks_in hc0], mg, hB, hK, hF.sub _ rfl⟩)
        · refine wp_exit (hK69 _ _ ?_)
          refine wp_rs fun K78 hK78 => ?_
          refine s_val hF (x_assign rfl) (by decide) fun a hF => ?_
          refine s_end (hK78 _ _ ?_)
          have hnil : ls.drop i = [] := List.drop_of_length_le (by omega)
          rw [hnil] at hck
          refine wp_ret (res_slot hF rfl rfl ⟨_, rfl, ⟨int_of (by rw [chk_in hnd, hck]; rfl), fun _ => by rw [chk_in hnd, hck]; exact mg⟩, hK⟩)

set_option maxRecDepth 100000 in
set_option maxHeartbeats 1600000 in
theorem rmay14 (x : C3) (l : Lv) (vars : Int) (w0 : World) (hL : RL w0 x l) : Calls Try.prog 42 #[lv x, .int .i64 vars] w0 fun e w' => e = .returned (.int .i64 (chk 32 1048576 vars 1 100 l).1) ∧ Below w0.heap.size w0 w' := by
  have hB := Below.refl w0.heap.size w0
  have sB := hB.size
  refine calls_fs 9 [(0, lv x), (1, .int .i64 vars)] Try.func42 rfl rfl rfl rfl rfl fun a hF => ?_
  refine wp_rs fun K1 hK1 => ?_
  refine s_box (lc x) hF (by decide) rfl rfl fun w2 b2 a eb2 m2 B3 zb2 hF => ?_
  have sB3 := B3.size
  have hB := hB.trans (B3.mono hB.size)
  refine s_val hF (x_assign rfl) (by decide) fun a hF => ?_
  refine s_end (hK1 _ _ ?_)
  refine wp_rs fun K2 hK2 => ?_
  refine s_alloc1 hF (by decide) zero3 rfl fun w4 b5 a eb5 m5 B5 zb5 hF => ?_
  have sB5 := B5.size
  have hB := hB.trans (B5.mono hB.size)
  have m2 := m2.old B5
  refine s_put hF rfl rfl flat3 m5 (by simp) rfl fun w6 m5 o7 => ?_
  have so7 := o7.size
  have hB := hB.trans (o7.below (by omega))
  have m2 := m2.only o7 (by omega)
  refine s_end (hK2 _ _ ?_)
  refine wp_rs fun K3 hK3 => ?_
  refine s_val hF (x_ldW wide24 m2 rfl rfl) (by decide) fun a hF => ?_
  refine s_val hF (x_move rfl) (by decide) fun a hF => ?_
  refine s_call (R := fun u w' => (u = .int .i64 (chk 32 1048576 vars 1 100 l).1 ∧ ((chk 32 1048576 vars 1 100 l).1 = 0 → Blk w' b5 3 [.int .i64 (100 - ((chk 32 1048576 vars 1 100 l).2 : Int))])) ∧ Ktw b5 b5 w6 w') hF [_, _, _, _] (enters_of Try.func82 (by kernel_rfl) rfl) rfl (by decide) (rmay35 vars w0 b5 (by omega) x l hL 1 100 w6 (by decide) (by decide) (by decide) hB m5) ?_
  rintro _ w8 a ⟨⟨rfl, _⟩, k9⟩ hF
  have sk9 := k9.size
  have hB := k9.under hB (by omega)
  have m2 := m2.k2 k9 (by omega)
  refine s_val hF (x_assign rfl) (by decide) fun a hF => ?_
  refine s_end (hK3 _ _ ?_)
  refine wp_ret (res_slot hF rfl rfl ⟨rfl, hB⟩)
end Go.Proofs.Ytaclncmkdpjnlaa

namespace Go.Proofs.Ytaclncmkdpjnlaa
open Go.RowKit Go.Shelf
set_option linter.unusedVariables false
set_option linter.unusedSimpArgs false

/-- Its numbers are small. -/
def SL.lit : SL → Prop
  | .num n => n ≤ 1048576
  | .var _ => True
  | .succ n a => n ≤ 1048576 ∧ a.lit
  | .mx a b => a.lit ∧ b.lit
theorem rd_row1 {W : World} {v : Value} {y : C3} (h : Rd W v 3 1 (lc y)) : ∃ b off c, v = .slice (some ⟨b, off, none⟩) 1 c ∧ ∀ W', Below W.heap.size W W' → ∀ j u, (lc y)[j]? = some u → W'.cell? ((⟨b, off + 0 * 3, none⟩ : Addr).add j) = some u := by
  obtain ⟨b, off, c, x, h1, h2, h3⟩ := rd_row3 (xs := [y]) (by simpa using h) (i := 0) (by simp)
  simp at h2
  subst h2
  exact ⟨b, off, c, h1, h3⟩
theorem rd_row2 {W : World} {v : Value} {y z : C3} (h : Rd W v 3 2 (lc y ++ lc z)) : ∃ b off c, v = .slice (some ⟨b, off, none⟩) 2 c ∧ (∀ W', Below W.heap.size W W' → ∀ j u, (lc y)[j]? = some u → W'.cell? ((⟨b, off + 0 * 3, none⟩ : Addr).add j) = some u) ∧ (∀ W', Below W.heap.size W W' → ∀ j u, (lc z)[j]? = some u → W'.cell? ((⟨b, off + 1 * 3, none⟩ : Addr).add j) = some u) := by
  obtain ⟨b, off, c, x, h1, h2, h3⟩ := rd_row3 (xs := [y, z]) (by simpa using h) (i := 0) (by simp)
  obtain ⟨b', off', c', x', h4, h5, h6⟩ := rd_row3 (xs := [y, z]) (by simpa using h) (i := 1) (by simp)
  simp at h2 h5
  subst h2 h5
  rw [h1] at h4
  cases h4
  exact ⟨b, off, c, h1, h3, h6⟩
theorem RS.one1 {W : World} {s : SL} {x : C3} (h : RS W s x) : x.2.2.oneCell' = true := by
  obtain ⟨_, _, h⟩ := h.slice
  exact h.one
/-- A level of the four kinds: its kids as a list. -/
def SL.kids : SL → List SL
  | .num _ => []
  | .var _ => []
  | .succ _ a => [a]
  | .mx a b => [a, b]
theorem RS.kids {W : World} : ∀ {s : SL} {x : C3}, RS W s x → ∃ xs : List C3, Rd W x.2.2 3 xs.length (xs.flatMap lc) ∧ xs.length = s.kids.length ∧ ∀ (i : Nat) y t, xs[i]? = some y → s.kids[i]? = some t → RS W t y
  | .num _, x, h => ⟨[], by simpa using h.2.2, rfl, fun i y t h1 => by simp at h1⟩
  | .var _, x, h => ⟨[], by simpa using h.2.2, rfl, fun i y t h1 => by simp at h1⟩
  | .succ _ a, x, ⟨_, _, y, h1, h2⟩ => ⟨[y], by simpa using h1, rfl, fun i z t e1 e2 => by
    rcases i with _ | i
    · simp [SL.kids] at e1 e2; subst e1 e2; exact h2
    · simp at e1⟩
  | .mx a b, x, ⟨_, y, z, h1, h2, h3⟩ => ⟨[y, z], by simpa using h1, rfl, fun i u t e1 e2 => by
    rcases i with _ | _ | i
    · simp [SL.kids] at e1 e2; subst e1 e2; exact h2
    · simp [SL.kids] at e1 e2; subst e1 e2; exact h3
    · simp at e1⟩
theorem SL.kids_le (s : SL) : s.kids.length ≤ 2 := by cases s <;> simp [SL.kids]
end Go.Proofs.Ytaclncmkdpjnlaa

namespace Go.Proofs.Ytaclncmkdpjnlaa
open Go.RowKit Go.Shelf
set_option linter.unusedVariables false
set_option linter.unusedSimpArgs false

def rho (vs : List Int) (i : Nat) : Int := max 0 (min (vs.getD i 0) 1099511627776)
def val : SL → (Nat → Int) → Int
  | .num n, _ => n
  | .var i, ρ => ρ i
  | .succ n a, ρ => cut (n + val a ρ)
  | .mx a b, ρ => max (val a ρ) (val b ρ)
end Go.Proofs.Ytaclncmkdpjnlaa

namespace Go.Proofs.Ytaclncmkdpjnlaa
open Go.RowKit Go.Shelf
set_option linter.unusedVariables false
set_option linter.unusedSimpArgs false

/-- A form (of type t) that lies in block g; its slice v lies in block o, if it has one. -/
structure FA (t base : Nat) (w : World) (g o : Nat) (v : Value) (c : Int) (ks : List Int) : Prop where
  blk : Blk w g t [.int .i64 c, v]
  own : w.ownsRow base 3 1 v ks.length (ints ks)
  at' : ∀ j, v.ownBlock = some j → j = o
  ne : v.ownBlock ≠ some g
  lo : base ≤ o ∧ base ≤ g ∧ o < w.heap.size
section
variable {t base : Nat} {w w' : World} {g o : Nat} {v : Value} {c : Int} {ks : List Int}
theorem FA.below (h : FA t base w g o v c ks) (hB : Below w.heap.size w w') : FA t base w' g o v c ks := ⟨h.blk.old hB, own_below h.own hB, h.at', h.ne, by have := h.lo; have := hB.size; omega⟩
theorem FA.only {k : Nat} (h : FA t base w g o v c ks) (hO : Only k w w') (hk : k ≠ g ∧ k ≠ o) : FA t base w' g o v c ks := ⟨h.blk.only hO (by omega), own_only h.own hO (fun e => by have := h.at' _ e; omega), h.at', h.ne, by have := h.lo; have := hO.size; omega⟩
theorem FA.k2 {a b : Nat} (h : FA t base w g o v c ks) (hK : Ktw a b w w') (hk : g ≠ a ∧ g ≠ b ∧ o ≠ a ∧ o ≠ b) : FA t base w' g o v c ks := ⟨h.blk.k2 hK (by omega), own_k2 h.own hK (fun c hc => by have := h.at' c hc; omega), h.at', h.ne, by have := h.lo; have := hK.size; omega⟩
theorem FA.form (h : FA t base w g o v c ks) : ∃ a cp, v = .slice a ks.length cp ∧ ks.length ≤ cp := by
  obtain ⟨a, cp, h1, h2, _⟩ := (Rd.own h.own).form
  exact ⟨a, cp, h1, h2⟩
theorem FA.rd (h : FA t base w g o v c ks) : Rd w v 1 ks.length (ints ks) := Rd.own h.own
theorem FA.lt (h : FA t base w g o v c ks) : g < w.heap.size := h.blk.lt
theorem FA.start (hB : Blk w g t [.int .i64 c, .slice none 0 0]) (hb : base ≤ g) : FA t base w g g (.slice none 0 0) c [] :=
  ⟨hB, World.ownsRow_nil _ _ _ _, (fun j h => by cases h), (fun h => by cases h), ⟨hb, hb, hB.lt⟩⟩
end
theorem ints_app (ks : List Int) (z : Int) : ints (ks ++ [z]) = ints ks ++ [.int .i64 z] := by simp
theorem ints_set (ks : List Int) (i : Nat) (z : Int) : ints (ks.set i z) = (ints ks).set i (.int .i64 z) := List.map_set
theorem rc_bd {s : SL} {n c : Int} (hn : 0 ≤ n) (h1 : n ≤ 1099511627776) (hc : 0 ≤ c) (h2 : c ≤ 1099511627776) : 0 ≤ rc s n c ∧ rc s n c ≤ 1099511627776 := by
  rw [rc_eq s n c hn (by omega)]
  have := cf_hi s n h1
  omega
end Go.Proofs.Ytaclncmkdpjnlaa

namespace Go.Proofs.Ytaclncmkdpjnlaa
open Go.RowKit Go.Shelf
set_option linter.unusedVariables false
set_option linter.unusedSimpArgs false

set_option maxRecDepth 100000 in
set_option maxHeartbeats 1600000 in
theorem raiseVar48 (base g o : Nat) (v : Value) (c : Int) (ks : List Int) (i : Nat) (k : Int) (w1 : World) (hA : FA 122 base w1 g o v c ks) (hi : i ≤ 2000) (hks : ks.length ≤ 3000) :
    Calls Try.prog 109 #[.pointer (some ⟨g, 0, none⟩), .int .i64 (i : Int), .int .i64 k] w1 fun e w' => ∃ u, e = .returned u ∧ (u = .tuple #[] ∧ ∃ v' o', FA 122 base w' g o' v' c (up ks i k) ∧ (o' = o ∨ w1.heap.size ≤ o')) ∧ Ktw g o w1 w' := by
  have hK := Ktw.refl g o w1
  refine calls_fs 37 [(0, .pointer (some ⟨g, 0, none⟩)), (1, .int .i64 (i : Int)), (2, .int .i64 k)] Try.func109 rfl rfl rfl rfl rfl fun a hF => ?_
  refine wp_seq_k fun K1 hK1 => ?_
  refine wp_block ?_
  refine wp_up (i + 1 - ks.length) (fun j a w => ∃ v' o', FA 122 base w g o' v' c (ks ++ List.replicate j (-1)) ∧ (o' = o ∨ w1.heap.size ≤ o') ∧ Ktw g o w1 w ∧ Fs 37 a [(0, .pointer (some ⟨g, 0, none⟩)), (1, .int .i64 (i : Int)), (2, .int .i64 k)]) ⟨v, o, by simpa using hA, .inl rfl, hK, hF.sub _ rfl⟩ ?_
  clear hF hK hA
  rintro j a w hj ⟨v2, o2, hA, ho2, hK, hF⟩ K' hK'
  have sK := hK.size
  obtain ⟨L, hL⟩ : ∃ L, L = ks ++ List.replicate j (-1) := ⟨_, rfl⟩
  rw [← hL] at hA
  have hLl : L.length = ks.length + j := by rw [hL]; simp
  obtain ⟨av, cv, rfl, hcv⟩ := hA.form
  have mg := hA.blk
  have hO := hA.own
  have hat := hA.at'
  have hne := hA.ne
  have hlo := hA.lo
  have hgl := mg.lt
  refine wp_seq_k fun K2 hK2 => ?_
  refine wp_rs fun K3 hK3 => ?_
  refine s_val hF (x_move rfl) (by decide) fun a hF => ?_
  refine s_val hF (x_nil rfl) (by decide) fun a hF => ?_
  refine s_val hF (x_fa0 fa59_1 rfl) (by decide) fun a hF => ?_
  refine s_val hF (x_load rfl (m_load flat29 (mg.cell (j := 1) rfl))) (by decide) fun a hF => ?_
  refine s_val hF (x_len Try.underlying95 rfl) (by decide) fun a hF => ?_
  refine s_val hF (x_move rfl) (by decide) fun a hF => ?_
  refine s_val hF (x_leq (b := decide (L.length ≤ i)) (decide_eq_decide.2 (by omega)) rfl rfl) (by decide) fun a hF => ?_
  refine s_end (hK3 _ _ ?_)
  refine wp_iff hF rfl (fun hc12 => ?_) (fun hc12 => ?_)
  · refine wp_skip (hK2 _ _ ?_)
    refine wp_block ?_
    refine wp_region_lit ?_
    refine s_val hF (x_move rfl) (by decide) fun a hF => ?_
    refine s_val hF (x_move rfl) (by decide) fun a hF => ?_
    refine s_val hF (x_nil rfl) (by decide) fun a hF => ?_
    refine s_val hF (x_fa0 fa59_1 rfl) (by decide) fun a hF => ?_
    refine s_val hF (x_load rfl (m_load flat29 (mg.cell (j := 1) rfl))) (by decide) fun a hF => ?_
    refine s_litG [.int .i64 (-1)] el29 hF (by decide) rfl (by simp [Value.cells]) rfl (by decide) (by decide) fun w2 bl a ebl ml B3 zbl hF => ?_
    have sB3 := B3.size
    have hK := hK.below B3
    have mg := mg.old B3
    have hO := own_below hO B3
    have ml : Blk w2 bl 3 [.int .i64 (-1)] := by simpa [Value.cells] using ml
    refine s_app1 (o := o2) el29 hF (by decide) rfl rfl hO ml rfl (by simp [Value.oneCell']) hat (by omega) (by omega) (by decide) (by omega) fun v3 w4 a o3 hOn hOatn how hsrc k5 hkeep hF => ?_
    have sk5 := k5.size
    have hK := hK.trans k5 (by omega)
    have mg := (hkeep _ mg.lt hne).trans mg
    have ml := ml.k2 k5 (by omega)
    have hO := hOn
    have hO_at := hOatn
    have hneg : v3.ownBlock ≠ some g := fun h => by rcases hsrc g h with h | h; exact hne h; omega
    refine s_val hF (x_nil rfl) (by decide) fun a hF => ?_
    refine s_val hF (x_fa0 fa59_1 rfl) (by decide) fun a hF => ?_
    refine s_put hF rfl rfl flat29 mg (by simp) (Rd.own hO).one fun w6 mg o7 => ?_
    have so7 := o7.size
    have hK := hK.only o7 (by omega)
    have hO := own_only hO o7 (hneg)
    have ml := ml.only o7 (by omega)
    have hL2 : ks ++ List.replicate (j + 1) (-1) = L ++ [-1] := by rw [hL, List.append_assoc, ← List.replicate_succ']
    refine s_end (hK' _ _ (by omega) ⟨v3, o3, ⟨mg, by rw [hL2, ints_app]; simpa using hO, hO_at, hneg, by omega⟩, by omega, hK, hF.sub _ rfl⟩)
  · have hjj : j = i + 1 - ks.length := by omega
    obtain ⟨o4, cap, cur, hve, hb4, mo, hc1, hc2, hc3, hc4⟩ := own_blk hO (by omega)
    cases hve
    obtain rfl : o4 = o2 := hat _ rfl
    have hgo : g ≠ o4 := fun e => hne (by rw [e]; rfl)
    rw [Nat.mul_one] at hc3 hc4
    have hcur : cur[i]? = some (.int .i64 (gt L i)) := by
      have : (cur.take L.length)[i]? = some (.int .i64 (gt L i)) := by rw [hc4, List.getElem?_map, List.getElem?_eq_getElem (by omega), gt_lt (by omega)]; rfl
      rwa [List.getElem?_take, if_pos (by omega)] at this
    have hLp : L = padL ks (i + 1) := by rw [hL, hjj]; rfl
    have mol := mo.lt
    refine wp_exit (hK1 _ _ ?_)
    refine dk2_one (o4) (o4) (ops := regOps Try.f109 2) (N := 16) (by kernel_rfl) wide_orders (by kernel_rfl) fun w8 hw8 B9 hS K4 hK4 => ?_
    have zw8 : w8.heap.size = w.heap.size := by rw [hw8]
    have sB9 := B9.size
    have hK := hK.below B9
    have mg := mg.old B9
    have mo := mo.old B9
    have mg_d := mg
    have mo_d := mo
    have hK_d := hK
    refine d_val 0 22 (op := (Go.Op.move (Go.Operand.tmp 0))) hF hS (by kernel_rfl) (fun W hW => x_move rfl) (by kernel_rfl) (by decide) fun a hF => ?_
    refine d_val 1 23 (op := (Go.Op.nilCheck (Go.Operand.tmp 22))) hF hS (by kernel_rfl) (fun W hW => x_nil rfl) (by kernel_rfl) (by decide) fun a hF => ?_
    refine d_val 2 24 (op := (Go.Op.fieldAddr 122 (Go.Operand.tmp 23) 1)) hF hS (by kernel_rfl) (fun W hW => x_fa0 fa59_1 rfl) (by kernel_rfl) (by decide) fun a hF => ?_
    refine d_val 3 25 (op := (Go.Op.load 95 (Go.Operand.tmp 24))) hF hS (by kernel_rfl) (fun W hW => x_load rfl (m_load flat29 ((mg_d.k2 hW (by omega)).cell (j := 1) rfl))) (by kernel_rfl) (by decide) fun a hF => ?_
    refine d_val 4 26 (op := (Go.Op.move (Go.Operand.tmp 1))) hF hS (by kernel_rfl) (fun W hW => x_move rfl) (by kernel_rfl) (by decide) fun a hF => ?_
    refine d_val 5 27 (op := (Go.Op.move (Go.Operand.tmp 0))) hF hS (by kernel_rfl) (fun W hW => x_move rfl) (by kernel_rfl) (by decide) fun a hF => ?_
    refine d_val 6 28 (op := (Go.Op.nilCheck (Go.Operand.tmp 27))) hF hS (by kernel_rfl) (fun W hW => x_nil rfl) (by kernel_rfl) (by decide) fun a hF => ?_
    refine d_val 7 29 (op := (Go.Op.fieldAddr 122 (Go.Operand.tmp 28) 1)) hF hS (by kernel_rfl) (fun W hW => x_fa0 fa59_1 rfl) (by kernel_rfl) (by decide) fun a hF => ?_
    refine d_val 8 30 (op := (Go.Op.load 95 (Go.Operand.tmp 29))) hF hS (by kernel_rfl) (fun W hW => x_load rfl (m_load flat29 ((mg_d.k2 hW (by omega)).cell (j := 1) rfl))) (by kernel_rfl) (by decide) fun a hF => ?_
    refine d_val 9 31 (op := (Go.Op.move (Go.Operand.tmp 1))) hF hS (by kernel_rfl) (fun W hW => x_move rfl) (by kernel_rfl) (by decide) fun a hF => ?_
    refine d_val 10 32 (op := (Go.Op.indexAddr 95 (Go.Operand.tmp 30) (Go.Operand.tmp 31))) hF hS (by kernel_rfl) (fun W hW => x_ixa rfl rfl (m_ixs0 i Try.underlying95 el29.size rfl (by omega))) (by kernel_rfl) (by decide) fun a hF => ?_
    refine d_val 12 34 (op := (Go.Op.move (Go.Operand.tmp 2))) hF hS (by kernel_rfl) (fun W hW => x_move rfl) (by kernel_rfl) (by decide) fun a hF => ?_
    refine d_one 11 (some 33) (Go.Op.load 3 (Go.Operand.tmp 32)) (by kernel_rfl) (by kernel_rfl) fun ty pos af => ?_
    refine s_val hF (x_load rfl (m_load flat3 (mo.cell (j := i) hcur))) (by decide) fun a hF => ?_
    refine s_end ⟨hS, ?_⟩
    refine d_val 13 35 (op := (Go.Op.call (Go.Call.mk (Go.Callee.builtin Go.Builtin.max) #[(Go.Operand.tmp 33), (Go.Operand.tmp 34)] #[3, 3]))) hF hS (by kernel_rfl) (fun W hW => x_imax rfl rfl) (by kernel_rfl) (by decide) fun a hF => ?_
    refine d_val 14 36 (op := (Go.Op.indexAddr 95 (Go.Operand.tmp 25) (Go.Operand.tmp 26))) hF hS (by kernel_rfl) (fun W hW => x_ixa rfl rfl (m_ixs0 i Try.underlying95 el29.size rfl (by omega))) (by kernel_rfl) (by decide) fun a hF => ?_
    refine d_one 15 none (Go.Op.store 3 (Go.Operand.tmp 36) (Go.Operand.tmp 35)) (by kernel_rfl) (by kernel_rfl) fun ty pos af => ?_
    refine s_put hF rfl rfl flat3 mo (by omega) rfl fun wz mo oz => ?_
    have hK := hK.only oz (by omega)
    have mg := mg.only oz (by omega)
    have hS := hS.only oz (by omega)
    have szz := oz.size
    clear hO
    refine s_end ⟨hS, ?_⟩
    refine d_end (by kernel_rfl) (hK4 _ _ ?_)
    show bodyPost Try.prog Try.f109 (_) .normal a wz
    refine post_normal (res_none hF rfl ⟨_, rfl, ⟨rfl, .slice (some ⟨o4, 0, none⟩) L.length cv, o4, ⟨mg, ?_, fun j h => (Option.some.inj h).symm, fun h => hgo (Option.some.inj h).symm, by omega⟩, ho2⟩, hK⟩)
    have hup : up ks i k = L.set i (max (gt L i) k) := by rw [up, hLp, gt_pad]
    have hul : (up ks i k).length = L.length := by rw [hup, List.length_set]
    have := own_of (k := 1) (n := L.length) (xs := ints (up ks i k)) hb4 mo hc1 hc2 (by rw [List.length_set]; omega) (by rw [Nat.mul_one, List.take_set, hc4, hup, ints_set])
    rw [hul]
    exact this

set_option maxRecDepth 100000 in
set_option maxHeartbeats 1600000 in
theorem raise59 (w0 : World) (g : Nat) : ∀ (s : SL) (x : C3), RS w0 s x → s.nums 1099511627776 1001 → ∀ (n : Int) (o : Nat) (v : Value) (c : Int) (ks : List Int) (w1 : World), 0 ≤ n → n ≤ 1099511627776 → 0 ≤ c → c ≤ 1099511627776 → ks.length ≤ 1001 → Below w0.heap.size w0 w1 → FA 122 w0.heap.size w1 g o v c ks →
    Calls Try.prog 124 #[.pointer (some ⟨g, 0, none⟩), lv x, .int .i64 n] w1 fun e w' => ∃ u, e = .returned u ∧ (u = .tuple #[] ∧ ∃ v' o', FA 122 w0.heap.size w' g o' v' (rc s n c) (rk s n ks) ∧ (o' = o ∨ w1.heap.size ≤ o')) ∧ Ktw g o w1 w' := by
  intro s
  induction s with
  | num p =>
    rintro ⟨k, m, vx⟩ hS0 hnm n o v c ks w1 hn0 hn1 hc0 hc1 hkl hB hA
    have hK := Ktw.refl g o w1
    have sB := hB.size
    have hlo := hA.lo
    have hgl := hA.lt
    obtain ⟨h1, h2, h3⟩ := hS0
    simp only at h1 h2
    subst h1 h2
    have hp : p ≤ 1099511627776 := hnm
    have mg := hA.blk
    have hO := hA.own
    have hat := hA.at'
    have hne := hA.ne
    refine calls_fs 57 [(0, .pointer (some ⟨g, 0, none⟩)), (1, .agg [.int .i64 1, .int .i64 (p : Int), vx].toArray), (2, .int .i64 n)] Try.func124 rfl rfl rfl rfl rfl fun a hF => ?_
    refine wp_rs fun K1 hK1 => ?_
    refine s_box ([.int .i64 1, .int .i64 (p : Int), vx]) hF (by decide) rfl rfl fun w2 b4 a eb4 m4 B3 zb4 hF => ?_
    have sB3 := B3.size
    have hB := hB.trans (B3.mono hB.size)
    have hK := hK.below B3
    have mg := mg.old B3
    have hO := own_below hO B3
    refine s_end (hK1 _ _ ?_)
    refine wp_rs fun K2 hK2 => ?_
    refine s_val hF (x_fa0 fa24_0 rfl) (by decide) fun a hF => ?_
    refine s_val hF (x_load rfl (m_load flat3 (m4.cell (j := 0) rfl))) (by decide) fun a hF => ?_
    refine s_end (hK2 _ _ ?_)
    refine wp_block ?_
    refine wp_rs fun K3 hK3 => ?_
    refine s_val hF (x_eql (b := true) (decide_eq_true (by omega)) rfl rfl) (by decide) fun a hF => ?_
    refine s_val hF (x_assign rfl) (by decide) fun a hF => ?_
    refine s_end (hK3 _ _ ?_)
    refine wp_if hF rfl ?_
    refine dk2_one (g) (g) (ops := regOps Try.f124 3) (N := 13) (by kernel_rfl) wide_orders (by kernel_rfl) fun w4 hw4 B5 hS K4 hK4 => ?_
    have zw4 : w4.heap.size = w2.heap.size := by rw [hw4]
    have sB5 := B5.size
    have hB := hB.trans (B5.mono hB.size)
    have hK := hK.below B5
    have mg := mg.old B5
    have hO := own_below hO B5
    have m4 := m4.old B5
    have mg_d := mg
    have hO_d := hO
    have m4_d := m4
    have hB_d := hB
    have hK_d := hK
    refine d_val 0 10 (op := (Go.Op.move (Go.Operand.tmp 0))) hF hS (by kernel_rfl) (fun W hW => x_move rfl) (by kernel_rfl) (by decide) fun a hF => ?_
    refine d_val 1 11 (op := (Go.Op.move (Go.Operand.tmp 0))) hF hS (by kernel_rfl) (fun W hW => x_move rfl) (by kernel_rfl) (by decide) fun a hF => ?_
    refine d_val 2 12 (op := (Go.Op.nilCheck (Go.Operand.tmp 11))) hF hS (by kernel_rfl) (fun W hW => x_nil rfl) (by kernel_rfl) (by decide) fun a hF => ?_
    refine d_val 3 13 (op := (Go.Op.fieldAddr 122 (Go.Operand.tmp 12) 0)) hF hS (by kernel_rfl) (fun W hW => x_fa0 fa59_0 rfl) (by kernel_rfl) (by decide) fun a hF => ?_
    refine d_val 5 15 (op := (Go.Op.move (Go.Operand.tmp 2))) hF hS (by kernel_rfl) (fun W hW => x_move rfl) (by kernel_rfl) (by decide) fun a hF => ?_
    refine d_val 6 16 (op := (Go.Op.fieldAddr 24 (Go.Operand.tmp 4) 1)) hF hS (by kernel_rfl) (fun W hW => x_fa0 fa24_1 rfl) (by kernel_rfl) (by decide) fun a hF => ?_
    refine d_val 7 17 (op := (Go.Op.load 3 (Go.Operand.tmp 16))) hF hS (by kernel_rfl) (fun W hW => x_load rfl (m_load flat3 ((m4_d.k2 hW (by omega)).cell (j := 1) rfl))) (by kernel_rfl) (by decide) fun a hF => ?_
    refine d_two 4 8 (by kernel_rfl) ?_ ?_
    · refine d_op 4 (some 14) (Go.Op.load 3 (Go.Operand.tmp 13)) (by kernel_rfl) fun ty pos af => ?_
      refine s_val hF (x_load rfl (m_load flat3 (mg.cell (j := 0) rfl))) (by decide) fun a hF => ?_
      refine s_end ⟨hS, ?_⟩
      refine d_one 8 (some 18) (Go.Op.call (Go.Call.mk (Go.Callee.value (Go.Operand.func 125)) #[(Go.Operand.tmp 15), (Go.Operand.tmp 17)] #[3, 3])) (by kernel_rfl) (by kernel_rfl) fun ty pos af => ?_
      refine s_callS [_, _] hF (enters_of Try.func125 (by kernel_rfl) rfl) rfl (by decide) (sum54 _ _ (by omega) (by omega) (by omega) (by omega) _) fun a hF => ?_
      refine s_end ⟨hS, ?_⟩
      refine d_val 9 19 (op := (Go.Op.call (Go.Call.mk (Go.Callee.builtin Go.Builtin.max) #[(Go.Operand.tmp 14), (Go.Operand.tmp 18)] #[3, 3]))) hF hS (by kernel_rfl) (fun W hW => x_imax rfl rfl) (by kernel_rfl) (by decide) fun a hF => ?_
      refine d_val 10 20 (op := (Go.Op.nilCheck (Go.Operand.tmp 10))) hF hS (by kernel_rfl) (fun W hW => x_nil rfl) (by kernel_rfl) (by decide) fun a hF => ?_
      refine d_val 11 21 (op := (Go.Op.fieldAddr 122 (Go.Operand.tmp 20) 0)) hF hS (by kernel_rfl) (fun W hW => x_fa0 fa59_0 rfl) (by kernel_rfl) (by decide) fun a hF => ?_
      refine d_one 12 none (Go.Op.store 3 (Go.Operand.tmp 21) (Go.Operand.tmp 19)) (by kernel_rfl) (by kernel_rfl) fun ty pos af => ?_
      refine s_put hF rfl rfl flat3 mg (by simp) rfl fun w6 mg o7 => ?_
      have so7 := o7.size
      have hB := hB.trans (o7.below (by omega))
      have hK := hK.only o7 (by omega)
      have hO := own_only hO o7 (hne)
      have m4 := m4.only o7 (by omega)
      have hS := hS.only o7 (by omega)
      refine s_end ⟨hS, ?_⟩
      refine d_end (by kernel_rfl) (hK4 _ _ ?_)
      show bodyPost Try.prog Try.f124 (fun e w' => ∃ u, e = .returned u ∧ (u = .tuple #[] ∧ ∃ v' o', FA 122 w0.heap.size w' g o' v' (rc (SL.num p) n c) (rk (SL.num p) n ks) ∧ (o' = o ∨ w1.heap.size ≤ o')) ∧ Ktw g o w1 w') .normal a w6
      refine post_normal (res_none hF rfl ⟨_, rfl, ⟨rfl, _, _, ⟨mg, hO, hat, hne, by omega⟩, .inl rfl⟩, hK⟩)
    · refine d_op 8 (some 18) (Go.Op.call (Go.Call.mk (Go.Callee.value (Go.Operand.func 125)) #[(Go.Operand.tmp 15), (Go.Operand.tmp 17)] #[3, 3])) (by kernel_rfl) fun ty pos af => ?_
      refine s_callS [_, _] hF (enters_of Try.func125 (by kernel_rfl) rfl) rfl (by decide) (sum54 _ _ (by omega) (by omega) (by omega) (by omega) _) fun a hF => ?_
      refine s_end ⟨hS, ?_⟩
      refine d_one 4 (some 14) (Go.Op.load 3 (Go.Operand.tmp 13)) (by kernel_rfl) (by kernel_rfl) fun ty pos af => ?_
      refine s_val hF (x_load rfl (m_load flat3 (mg.cell (j := 0) rfl))) (by decide) fun a hF => ?_
      refine s_end ⟨hS, ?_⟩
      refine d_val 9 19 (op := (Go.Op.call (Go.Call.mk (Go.Callee.builtin Go.Builtin.max) #[(Go.Operand.tmp 14), (Go.Operand.tmp 18)] #[3, 3]))) hF hS (by kernel_rfl) (fun W hW => x_imax rfl rfl) (by kernel_rfl) (by decide) fun a hF => ?_
      refine d_val 10 20 (op := (Go.Op.nilCheck (Go.Operand.tmp 10))) hF hS (by kernel_rfl) (fun W hW => x_nil rfl) (by kernel_rfl) (by decide) fun a hF => ?_
      refine d_val 11 21 (op := (Go.Op.fieldAddr 122 (Go.Operand.tmp 20) 0)) hF hS (by kernel_rfl) (fun W hW => x_fa0 fa59_0 rfl) (by kernel_rfl) (by decide) fun a hF => ?_
      refine d_one 12 none (Go.Op.store 3 (Go.Operand.tmp 21) (Go.Operand.tmp 19)) (by kernel_rfl) (by kernel_rfl) fun ty pos af => ?_
      refine s_put hF rfl rfl flat3 mg (by simp) rfl fun w8 mg o9 => ?_
      have so9 := o9.size
      have hB := hB.trans (o9.below (by omega))
      have hK := hK.only o9 (by omega)
      have hO := own_only hO o9 (hne)
      have m4 := m4.only o9 (by omega)
      have hS := hS.only o9 (by omega)
      refine s_end ⟨hS, ?_⟩
      refine d_end (by kernel_rfl) (hK4 _ _ ?_)
      show bodyPost Try.prog Try.f124 (fun e w' => ∃ u, e = .returned u ∧ (u = .tuple #[] ∧ ∃ v' o', FA 122 w0.heap.size w' g o' v' (rc (SL.num p) n c) (rk (SL.num p) n ks) ∧ (o' = o ∨ w1.heap.size ≤ o')) ∧ Ktw g o w1 w') .normal a w8
      refine post_normal (res_none hF rfl ⟨_, rfl, ⟨rfl, _, _, ⟨mg, hO, hat, hne, by omega⟩, .inl rfl⟩, hK⟩)
  | var i =>
    rintro ⟨k, m, vx⟩ hS0 hnm n o v c ks w1 hn0 hn1 hc0 hc1 hkl hB hA
    have hK := Ktw.refl g o w1
    have sB := hB.size
    have hlo := hA.lo
    have hgl := hA.lt
    obtain ⟨h1, h2, h3⟩ := hS0
    simp only at h1 h2
    subst h1 h2
    have hi : i < 1001 := hnm
    refine calls_fs 57 [(0, .pointer (some ⟨g, 0, none⟩)), (1, .agg [.int .i64 2, .int .i64 (i : Int), vx].toArray), (2, .int .i64 n)] Try.func124 rfl rfl rfl rfl rfl fun a hF => ?_
    refine wp_rs fun K1 hK1 => ?_
    refine s_box ([.int .i64 2, .int .i64 (i : Int), vx]) hF (by decide) rfl rfl fun w2 b4 a eb4 m4 B3 zb4 hF => ?_
    have sB3 := B3.size
    have hB := hB.trans (B3.mono hB.size)
    have hK := hK.below B3
    have hA := hA.below B3
    refine s_end (hK1 _ _ ?_)
    refine wp_rs fun K2 hK2 => ?_
    refine s_val hF (x_fa0 fa24_0 rfl) (by decide) fun a hF => ?_
    refine s_val hF (x_load rfl (m_load flat3 (m4.cell (j := 0) rfl))) (by decide) fun a hF => ?_
    refine s_end (hK2 _ _ ?_)
    refine wp_block ?_
    refine wp_rs fun K3 hK3 => ?_
    refine s_val hF (x_eql (b := false) (decide_eq_false (by omega)) rfl rfl) (by decide) fun a hF => ?_
    refine s_val hF (x_assign rfl) (by decide) fun a hF => ?_
    refine s_end (hK3 _ _ ?_)
    refine wp_if hF rfl ?_
    refine wp_rs fun K4 hK4 => ?_
    refine s_val hF (x_eql (b := true) (decide_eq_true (by omega)) rfl rfl) (by decide) fun a hF => ?_
    refine s_val hF (x_assign rfl) (by decide) fun a hF => ?_
    refine s_end (hK4 _ _ ?_)
    refine wp_if hF rfl ?_
    refine wp_region_lit ?_
    refine s_val hF (x_move rfl) (by decide) fun a hF => ?_
    refine s_val hF (x_fa0 fa24_1 rfl) (by decide) fun a hF => ?_
    refine s_val hF (x_load rfl (m_load flat3 (m4.cell (j := 1) rfl))) (by decide) fun a hF => ?_
    refine s_val hF (x_move rfl) (by decide) fun a hF => ?_
    refine s_call (R := fun u w' => (u = .tuple #[] ∧ ∃ v' o', FA 122 w0.heap.size w' g o' v' c (up ks i n) ∧ (o' = o ∨ w2.heap.size ≤ o')) ∧ Ktw g o w2 w') hF [_, _, _] (enters_of Try.func109 (by kernel_rfl) rfl) rfl (by decide) (raiseVar48 w0.heap.size g o v c ks i n w2 hA (by omega) (by omega)) ?_
    rintro _ w4 a ⟨⟨rfl, v2, o2, hA, ho2⟩, k5⟩ hF
    have sk5 := k5.size
    have hB := k5.under hB (by omega)
    have hK := hK.trans k5 (by omega)
    have m4 := m4.k2 k5 (by omega)
    refine s_end ?_
    show bodyPost Try.prog Try.f124 (fun e w' => ∃ u, e = .returned u ∧ (u = .tuple #[] ∧ ∃ v' o', FA 122 w0.heap.size w' g o' v' (rc (SL.var i) n c) (rk (SL.var i) n ks) ∧ (o' = o ∨ w1.heap.size ≤ o')) ∧ Ktw g o w1 w') .normal a w4
    refine post_normal (res_none hF rfl ⟨_, rfl, ⟨rfl, _, _, hA, by omega⟩, hK⟩)
  | succ p sa iha =>
    rintro ⟨k, m, vx⟩ hS0 hnm n o v c ks w1 hn0 hn1 hc0 hc1 hkl hB hA
    have hK := Ktw.refl g o w1
    have sB := hB.size
    have hlo := hA.lo
    have hgl := hA.lt
    obtain ⟨h1, h2, y, h3, hy⟩ := hS0
    simp only at h1 h2 h3
    subst h1 h2
    have hp1 := hnm.1
    have hp2 := hnm.2.1
    obtain ⟨b, off, cp, rfl, hrow⟩ := rd_row1 h3
    refine calls_fs 57 [(0, .pointer (some ⟨g, 0, none⟩)), (1, .agg [.int .i64 3, .int .i64 (p : Int), .slice (some ⟨b, off, none⟩) 1 cp].toArray), (2, .int .i64 n)] Try.func124 rfl rfl rfl rfl rfl fun a hF => ?_
    refine wp_rs fun K1 hK1 => ?_
    refine s_box ([.int .i64 3, .int .i64 (p : Int), .slice (some ⟨b, off, none⟩) 1 cp]) hF (by decide) rfl rfl fun w2 b4 a eb4 m4 B3 zb4 hF => ?_
    have sB3 := B3.size
    have hB := hB.trans (B3.mono hB.size)
    have hK := hK.below B3
    have hA := hA.below B3
    refine s_end (hK1 _ _ ?_)
    refine wp_rs fun K2 hK2 => ?_
    refine s_val hF (x_fa0 fa24_0 rfl) (by decide) fun a hF => ?_
    refine s_val hF (x_load rfl (m_load flat3 (m4.cell (j := 0) rfl))) (by decide) fun a hF => ?_
    refine s_end (hK2 _ _ ?_)
    refine wp_block ?_
    refine wp_rs fun K3 hK3 => ?_
    refine s_val hF (x_eql (b := false) (decide_eq_false (by omega)) rfl rfl) (by decide) fun a hF => ?_
    refine s_val hF (x_assign rfl) (by decide) fun a hF => ?_
    refine s_end (hK3 _ _ ?_)
    refine wp_if hF rfl ?_
    refine wp_rs fun K4 hK4 => ?_
    refine s_val hF (x_eql (b := false) (decide_eq_false (by omega)) rfl rfl) (by decide) fun a hF => ?_
    refine s_val hF (x_assign rfl) (by decide) fun a hF => ?_
    refine s_end (hK4 _ _ ?_)
    refine wp_if hF rfl ?_
    refine wp_rs fun K5 hK5 => ?_
    refine s_val hF (x_eql (b := true) (decide_eq_true (by omega)) rfl rfl) (by decide) fun a hF => ?_
    refine s_val hF (x_assign rfl) (by decide) fun a hF => ?_
    refine s_end (hK5 _ _ ?_)
    refine wp_if hF rfl ?_
    refine dk2_one (g) (o) (ops := regOps Try.f124 7) (N := 10) (by kernel_rfl) wide_orders (by kernel_rfl) fun w4 hw4 B5 hS K6 hK6 => ?_
    have zw4 : w4.heap.size = w2.heap.size := by rw [hw4]
    have sB5 := B5.size
    have hB := hB.trans (B5.mono hB.size)
    have hK := hK.below B5
    have hA := hA.below B5
    have m4 := m4.old B5
    have hA_d := hA
    have m4_d := m4
    have hB_d := hB
    have hK_d := hK
    refine d_val 0 31 (op := (Go.Op.move (Go.Operand.tmp 0))) hF hS (by kernel_rfl) (fun W hW => x_move rfl) (by kernel_rfl) (by decide) fun a hF => ?_
    refine d_val 1 32 (op := (Go.Op.fieldAddr 24 (Go.Operand.tmp 4) 2)) hF hS (by kernel_rfl) (fun W hW => x_fa0 fa24_2 rfl) (by kernel_rfl) (by decide) fun a hF => ?_
    refine d_val 2 33 (op := (Go.Op.load 22 (Go.Operand.tmp 32))) hF hS (by kernel_rfl) (fun W hW => x_load rfl (m_load flat22 ((m4_d.k2 hW (by omega)).cell (j := 2) rfl))) (by kernel_rfl) (by decide) fun a hF => ?_
    refine d_val 3 34 (op := (Go.Op.indexAddr 22 (Go.Operand.tmp 33) (Go.Operand.const (Go.Value.int Go.IntKind.i64 0)))) hF hS (by kernel_rfl) (fun W hW => x_ixa rfl rfl (m_ixsK 0 Try.underlying22 el22.size rfl (by omega))) (by kernel_rfl) (by decide) fun a hF => ?_
    refine d_val 4 35 (op := (Go.Op.load 24 (Go.Operand.tmp 34))) hF hS (by kernel_rfl) (fun W hW => x_ldA wide24 (hrow _ (hW.under hB_d (by omega))) rfl rfl) (by kernel_rfl) (by decide) fun a hF => ?_
    refine d_val 5 36 (op := (Go.Op.move (Go.Operand.tmp 2))) hF hS (by kernel_rfl) (fun W hW => x_move rfl) (by kernel_rfl) (by decide) fun a hF => ?_
    refine d_val 6 37 (op := (Go.Op.fieldAddr 24 (Go.Operand.tmp 4) 1)) hF hS (by kernel_rfl) (fun W hW => x_fa0 fa24_1 rfl) (by kernel_rfl) (by decide) fun a hF => ?_
    refine d_val 7 38 (op := (Go.Op.load 3 (Go.Operand.tmp 37))) hF hS (by kernel_rfl) (fun W hW => x_load rfl (m_load flat3 ((m4_d.k2 hW (by omega)).cell (j := 1) rfl))) (by kernel_rfl) (by decide) fun a hF => ?_
    refine d_one 8 (some 39) (Go.Op.call (Go.Call.mk (Go.Callee.value (Go.Operand.func 125)) #[(Go.Operand.tmp 36), (Go.Operand.tmp 38)] #[3, 3])) (by kernel_rfl) (by kernel_rfl) fun ty pos af => ?_
    refine s_callS [_, _] hF (enters_of Try.func125 (by kernel_rfl) rfl) rfl (by decide) (sum54 _ _ (by omega) (by omega) (by omega) (by omega) _) fun a hF => ?_
    refine s_end ⟨hS, ?_⟩
    refine d_one 9 (some 40) (Go.Op.call (Go.Call.mk (Go.Callee.value (Go.Operand.func 124)) #[(Go.Operand.tmp 31), (Go.Operand.tmp 35), (Go.Operand.tmp 39)] #[137, 24, 3])) (by kernel_rfl) (by kernel_rfl) fun ty pos af => ?_
    refine s_call (R := fun u w' => (u = .tuple #[] ∧ ∃ v' o', FA 122 w0.heap.size w' g o' v' (rc sa (cut (n + (p : Int))) (c)) (rk sa (cut (n + (p : Int))) (ks)) ∧ (o' = o ∨ w4.heap.size ≤ o')) ∧ Ktw g o w4 w') hF [_, _, _] (enters_of Try.func124 (by kernel_rfl) rfl) rfl (by decide) (iha _ hy hnm.2.2 (cut (n + (p : Int))) _ _ (c) (ks) w4 (cut_nn (by omega)) (cut_le _) hc0 hc1 hkl hB hA) ?_
    rintro _ w6 a ⟨⟨rfl, v2, o2, hA, ho2⟩, k7⟩ hF
    have sk7 := k7.size
    have hB := k7.under hB (by omega)
    have hK := hK.trans k7 (by omega)
    have m4 := m4.k2 k7 (by omega)
    have hS := hS.trans k7 (by omega)
    refine s_end ⟨hS, ?_⟩
    refine d_end (by kernel_rfl) (hK6 _ _ ?_)
    show bodyPost Try.prog Try.f124 (fun e w' => ∃ u, e = .returned u ∧ (u = .tuple #[] ∧ ∃ v' o', FA 122 w0.heap.size w' g o' v' (rc (SL.succ p sa) n c) (rk (SL.succ p sa) n ks) ∧ (o' = o ∨ w1.heap.size ≤ o')) ∧ Ktw g o w1 w') .normal a w6
    refine post_normal (res_none hF rfl ⟨_, rfl, ⟨rfl, _, _, hA, by omega⟩, hK⟩)
  | mx sa sb iha ihb =>
    rintro ⟨k, m, vx⟩ hS0 hnm n o v c ks w1 hn0 hn1 hc0 hc1 hkl hB hA
    have hK := Ktw.refl g o w1
    have sB := hB.size
    have hlo := hA.lo
    have hgl := hA.lt
    obtain ⟨h1, y, z, h3, hy, hz⟩ := hS0
    simp only at h1 h3
    subst h1
    obtain ⟨b, off, cp, rfl, hrow1, hrow2⟩ := rd_row2 h3
    refine calls_fs 57 [(0, .pointer (some ⟨g, 0, none⟩)), (1, .agg [.int .i64 4, .int .i64 m, .slice (some ⟨b, off, none⟩) 2 cp].toArray), (2, .int .i64 n)] Try.func124 rfl rfl rfl rfl rfl fun a hF => ?_
    refine wp_rs fun K1 hK1 => ?_
    refine s_box ([.int .i64 4, .int .i64 m, .slice (some ⟨b, off, none⟩) 2 cp]) hF (by decide) rfl rfl fun w2 b4 a eb4 m4 B3 zb4 hF => ?_
    have sB3 := B3.size
    have hB := hB.trans (B3.mono hB.size)
    have hK := hK.below B3
    have hA := hA.below B3
    refine s_end (hK1 _ _ ?_)
    refine wp_rs fun K2 hK2 => ?_
    refine s_val hF (x_fa0 fa24_0 rfl) (by decide) fun a hF => ?_
    refine s_val hF (x_load rfl (m_load flat3 (m4.cell (j := 0) rfl))) (by decide) fun a hF => ?_
    refine s_end (hK2 _ _ ?_)
    refine wp_block ?_
    refine wp_rs fun K3 hK3 => ?_
    refine s_val hF (x_eql (b := false) (decide_eq_false (by omega)) rfl rfl) (by decide) fun a hF => ?_
    refine s_val hF (x_assign rfl) (by decide) fun a hF => ?_
    refine s_end (hK3 _ _ ?_)
    refine wp_if hF rfl ?_
    refine wp_rs fun K4 hK4 => ?_
    refine s_val hF (x_eql (b := false) (decide_eq_false (by omega)) rfl rfl) (by decide) fun a hF => ?_
    refine s_val hF (x_assign rfl) (by decide) fun a hF => ?_
    refine s_end (hK4 _ _ ?_)
    refine wp_if hF rfl ?_
    refine wp_rs fun K5 hK5 => ?_
    refine s_val hF (x_eql (b := false) (decide_eq_false (by omega)) rfl rfl) (by decide) fun a hF => ?_
    refine s_val hF (x_assign rfl) (by decide) fun a hF => ?_
    refine s_end (hK5 _ _ ?_)
    refine wp_if hF rfl ?_
    refine wp_rs fun K6 hK6 => ?_
    refine s_val hF (x_eql (b := true) (decide_eq_true (by omega)) rfl rfl) (by decide) fun a hF => ?_
    refine s_val hF (x_assign rfl) (by decide) fun a hF => ?_
    refine s_end (hK6 _ _ ?_)
    refine wp_if hF rfl ?_
    refine wp_rs fun K7 hK7 => ?_
    refine s_val hF (x_move rfl) (by decide) fun a hF => ?_
    refine s_val hF (x_fa0 fa24_2 rfl) (by decide) fun a hF => ?_
    refine s_val hF (x_load rfl (m_load flat22 (m4.cell (j := 2) rfl))) (by decide) fun a hF => ?_
    refine s_val hF (x_ixa rfl rfl (m_ixsK 0 Try.underlying22 el22.size rfl (by omega))) (by decide) fun a hF => ?_
    refine s_val hF (x_ldA wide24 (hrow1 _ hB) rfl rfl) (by decide) fun a hF => ?_
    refine s_val hF (x_move rfl) (by decide) fun a hF => ?_
    refine s_call (R := fun u w' => (u = .tuple #[] ∧ ∃ v' o', FA 122 w0.heap.size w' g o' v' (rc sa (n) (c)) (rk sa (n) (ks)) ∧ (o' = o ∨ w2.heap.size ≤ o')) ∧ Ktw g o w2 w') hF [_, _, _] (enters_of Try.func124 (by kernel_rfl) rfl) rfl (by decide) (iha _ hy hnm.1 (n) _ _ (c) (ks) w2 hn0 hn1 hc0 hc1 hkl hB hA) ?_
    rintro _ w4 a ⟨⟨rfl, v2, o2, hA, ho2⟩, k5⟩ hF
    have sk5 := k5.size
    have hB := k5.under hB (by omega)
    have hK := hK.trans k5 (by omega)
    have m4 := m4.k2 k5 (by omega)
    have hlo2 := hA.lo
    have hgl2 := hA.lt
    have hbd := rc_bd (s := sa) hn0 hn1 hc0 hc1
    refine s_end (hK7 _ _ ?_)
    refine wp_region_lit ?_
    refine s_val hF (x_move rfl) (by decide) fun a hF => ?_
    refine s_val hF (x_fa0 fa24_2 rfl) (by decide) fun a hF => ?_
    refine s_val hF (x_load rfl (m_load flat22 (m4.cell (j := 2) rfl))) (by decide) fun a hF => ?_
    refine s_val hF (x_ixa rfl rfl (m_ixsK 1 Try.underlying22 el22.size rfl (by omega))) (by decide) fun a hF => ?_
    refine s_val hF (x_ldA wide24 (hrow2 _ hB) rfl rfl) (by decide) fun a hF => ?_
    refine s_val hF (x_move rfl) (by decide) fun a hF => ?_
    refine s_call (R := fun u w' => (u = .tuple #[] ∧ ∃ v' o', FA 122 w0.heap.size w' g o' v' (rc sb (n) (rc sa n c)) (rk sb (n) (rk sa n ks)) ∧ (o' = o2 ∨ w4.heap.size ≤ o')) ∧ Ktw g o2 w4 w') hF [_, _, _] (enters_of Try.func124 (by kernel_rfl) rfl) rfl (by decide) (ihb _ hz hnm.2 (n) _ _ (rc sa n c) (rk sa n ks) w4 hn0 hn1 hbd.1 hbd.2 (rk_len sa n ks 1001 hnm.1 hkl) hB hA) ?_
    rintro _ w6 a ⟨⟨rfl, v3, o3, hA, ho3⟩, k7⟩ hF
    have sk7 := k7.size
    have hB := k7.under hB (by omega)
    have hK := hK.trans k7 (by omega)
    have m4 := m4.k2 k7 (by omega)
    refine s_end ?_
    show bodyPost Try.prog Try.f124 (fun e w' => ∃ u, e = .returned u ∧ (u = .tuple #[] ∧ ∃ v' o', FA 122 w0.heap.size w' g o' v' (rc (SL.mx sa sb) n c) (rk (SL.mx sa sb) n ks) ∧ (o' = o ∨ w1.heap.size ≤ o')) ∧ Ktw g o w1 w') .normal a w6
    refine post_normal (res_none hF rfl ⟨_, rfl, ⟨rfl, _, _, hA, by omega⟩, hK⟩)

set_option maxRecDepth 100000 in
set_option maxHeartbeats 1600000 in
theorem max63 (ks : List Int) (v : Value) (w0 : World) (hn : 0 < ks.length) (hl : ks.length ≤ 9223372036854775807) (hLo : Lo ks) (hV : Rd w0 v 1 ks.length (ints ks)) : Calls Try.prog 118 #[v] w0 fun e w' => e = .returned (.int .i64 (mxl ks)) ∧ w' = w0 := by
  obtain ⟨b, off, cv, hve, hrow0⟩ := rd_rowI hV (i := 0) hn
  subst hve
  have hBr := Below.refl w0.heap.size w0
  have h0 := hLo.gt 0
  refine calls_fs 25 [(0, .slice (some ⟨b, off, none⟩) ks.length cv)] Try.func118 rfl rfl rfl rfl rfl fun a hF => ?_
  refine wp_rs fun K1 hK1 => ?_
  refine s_val hF (x_assign rfl) (by decide) fun a hF => ?_
  refine s_end (hK1 _ _ ?_)
  refine wp_seq_k fun K2 hK2 => ?_
  refine wp_rs fun K3 hK3 => ?_
  refine s_val hF (x_move rfl) (by decide) fun a hF => ?_
  refine s_val hF (x_len Try.underlying95 rfl) (by decide) fun a hF => ?_
  refine s_val hF (x_lss (b := false) (decide_eq_false (by omega)) rfl rfl) (by decide) fun a hF => ?_
  refine s_end (hK3 _ _ ?_)
  refine wp_if hF rfl ?_
  refine wp_skip (hK2 _ _ ?_)
  refine wp_rs fun K4 hK4 => ?_
  refine s_val hF (x_move rfl) (by decide) fun a hF => ?_
  refine s_val hF (x_ixa rfl rfl (m_ixs 0 Try.underlying95 el29.size rfl (by omega))) (by decide) fun a hF => ?_
  refine s_val hF (x_load rfl (m_load flat3 (hrow0 _ hBr))) (by decide) fun a hF => ?_
  refine s_val hF (x_assign rfl) (by decide) fun a hF => ?_
  refine s_end (hK4 _ _ ?_)
  refine wp_seq_k fun K5 hK5 => ?_
  refine wp_rs fun K6 hK6 => ?_
  refine s_val hF (x_assign rfl) (by decide) fun a hF => ?_
  refine s_end (hK6 _ _ ?_)
  refine wp_block ?_
  refine wp_up (ks.length - 1) (fun j a w => w = w0 ∧ Fs 25 a [(3, .int .i64 ((ks.take (j + 1)).foldl max (-1))), (4, .int .i64 ((j + 1 : Nat) : Int)), (0, .slice (some ⟨b, off, none⟩) ks.length cv)]) ⟨rfl, ?_⟩ ?_
  · have e1 : (ks.take 1).foldl max (-1) = gt ks 0 := by rw [List.take_one, List.head?_eq_getElem?, List.getElem?_eq_getElem hn, gt_lt hn]; simp only [Option.toList_some, List.foldl_cons, List.foldl_nil]; rw [gt_lt hn] at h0; omega
    refine hF.sub _ ?_
    show [_, _, _] = [_, _, _]
    rw [show (0 + 1 : Nat) = 1 from rfl, e1]
    rfl
  clear hF
  rintro j a w hj ⟨rfl, hF⟩ K' hK'
  refine wp_seq_k fun K7 hK7 => ?_
  refine wp_rs fun K8 hK8 => ?_
  refine s_val hF (x_move rfl) (by decide) fun a hF => ?_
  refine s_val hF (x_move rfl) (by decide) fun a hF => ?_
  refine s_val hF (x_len Try.underlying95 rfl) (by decide) fun a hF => ?_
  refine s_val hF (x_lss (b := decide (j + 1 < ks.length)) (decide_eq_decide.2 (by omega)) rfl rfl) (by decide) fun a hF => ?_
  refine s_end (hK8 _ _ ?_)
  refine wp_iff hF rfl (fun hc15 => ?_) (fun hc15 => ?_)
  · obtain ⟨b2, off2, cv2, hve, hrow⟩ := rd_rowI hV (i := j + 1) (by omega)
    cases hve
    refine wp_skip (hK7 _ _ ?_)
    refine wp_seq_k fun K9 hK9 => ?_
    refine wp_block ?_
    refine wp_region_lit ?_
    refine s_val hF (x_move rfl) (by decide) fun a hF => ?_
    refine s_val hF (x_move rfl) (by decide) fun a hF => ?_
    refine s_val hF (x_move rfl) (by decide) fun a hF => ?_
    refine s_val hF (x_ixa rfl rfl (m_ixs (j + 1) Try.underlying95 el29.size rfl (by omega))) (by decide) fun a hF => ?_
    refine s_val hF (x_load rfl (m_load flat3 (hrow _ hBr))) (by decide) fun a hF => ?_
    refine s_val hF (x_imax rfl rfl) (by decide) fun a hF => ?_
    refine s_val hF (x_assign rfl) (by decide) fun a hF => ?_
    refine s_end (hK9 _ _ ?_)
    refine wp_region_lit ?_
    refine s_val hF (x_move rfl) (by decide) fun a hF => ?_
    refine s_val hF (x_addn (j + 1 + 1) (by omega) (by omega) rfl rfl) (by decide) fun a hF => ?_
    refine s_val hF (x_assign rfl) (by decide) fun a hF => ?_
    have e1 : (ks.take (j + 1 + 1)).foldl max (-1) = max ((ks.take (j + 1)).foldl max (-1)) (gt ks (j + 1)) := by rw [List.take_add_one, List.getElem?_eq_getElem (by omega), gt_lt (by omega), List.foldl_append]; rfl
    refine s_end (hK' _ _ (by omega) ⟨rfl, hF.sub _ (by rw [e1]; rfl)⟩)
  · refine wp_exit (hK5 _ _ ?_)
    refine wp_rs fun K10 hK10 => ?_
    refine s_val hF (x_move rfl) (by decide) fun a hF => ?_
    refine s_val hF (x_assign rfl) (by decide) fun a hF => ?_
    refine s_end (hK10 _ _ ?_)
    refine wp_ret (res_slot hF rfl rfl ⟨by rw [mxl, List.take_of_length_le (by omega)], rfl⟩)

set_option maxRecDepth 100000 in
set_option maxHeartbeats 1600000 in
theorem equal62 (ks ls : List Int) (v u : Value) (w0 : World) (hl : ks.length ≤ 9223372036854775807) (hV : Rd w0 v 1 ks.length (ints ks)) (hU : Rd w0 u 1 ls.length (ints ls)) : Calls Try.prog 139 #[v, u] w0 fun e w' => e = .returned (.bool (decide (ks = ls))) ∧ Below w0.heap.size w0 w' := by
  obtain ⟨av, cv, hve, _⟩ := hV.form
  obtain ⟨au, cu, hue, _⟩ := hU.form
  subst hve hue
  have hB := Below.refl w0.heap.size w0
  have sB := hB.size
  refine calls_fs 26 [(0, .slice av ks.length cv), (1, .slice au ls.length cu)] Try.func139 rfl rfl rfl rfl rfl fun a hF => ?_
  refine wp_rs fun K1 hK1 => ?_
  refine s_val hF (x_assign rfl) (by decide) fun a hF => ?_
  refine s_end (hK1 _ _ ?_)
  refine wp_seq_k fun K2 hK2 => ?_
  rcases (show ks.length ≠ ls.length ∨ ks.length = ls.length by omega) with hq | hq
  · skip
    refine wp_rs fun K4 hK4 => ?_
    refine s_val hF (x_move rfl) (by decide) fun a hF => ?_
    refine s_val hF (x_len Try.underlying95 rfl) (by decide) fun a hF => ?_
    refine s_val hF (x_move rfl) (by decide) fun a hF => ?_
    refine s_val hF (x_len Try.underlying95 rfl) (by decide) fun a hF => ?_
    refine s_val hF (x_neq (b := true) (decide_eq_true (by omega)) rfl rfl) (by decide) fun a hF => ?_
    refine s_end (hK4 _ _ ?_)
    refine wp_if hF rfl ?_
    refine wp_rs fun K5 hK5 => ?_
    refine s_val hF (x_assign rfl) (by decide) fun a hF => ?_
    refine s_end (hK5 _ _ ?_)
    refine wp_ret (then_ret (res_slot hF rfl rfl ⟨by rw [decide_eq_false (fun h => hq (by rw [h]))], hB⟩))
  · skip
    refine wp_rs fun K6 hK6 => ?_
    refine s_val hF (x_move rfl) (by decide) fun a hF => ?_
    refine s_val hF (x_len Try.underlying95 rfl) (by decide) fun a hF => ?_
    refine s_val hF (x_move rfl) (by decide) fun a hF => ?_
    refine s_val hF (x_len Try.underlying95 rfl) (by decide) fun a hF => ?_
    refine s_val hF (x_neq (b := false) (decide_eq_false (by omega)) rfl rfl) (by decide) fun a hF => ?_
    refine s_end (hK6 _ _ ?_)
    refine wp_if hF rfl ?_
    refine wp_skip (hK2 _ _ ?_)
    refine wp_seq_k fun K7 hK7 => ?_
    refine wp_rs fun K8 hK8 => ?_
    refine s_val hF (x_move rfl) (by decide) fun a hF => ?_
    refine s_val hF (x_len Try.underlying95 rfl) (by decide) fun a hF => ?_
    refine s_val hF (x_move rfl) (by decide) fun a hF => ?_
    refine s_end (hK8 _ _ ?_)
    refine wp_block ?_
    refine wp_up ks.length (fun i a w => ks.take i = ls.take i ∧ Below w0.heap.size w0 w ∧ Fs 26 a [(13, .int .i64 (i : Int)), (12, .int .i64 (ks.length : Int)), (0, .slice av ks.length cv), (1, .slice au ls.length cu)]) ⟨by simp, hB, hF.sub _ rfl⟩ ?_
    clear hF hB
    rintro i a w hi ⟨heq, hB, hF⟩ K' hK'
    have sB := hB.size
    refine wp_rs fun K9 hK9 => ?_
    refine s_val hF (x_lss rfl rfl rfl) (by decide) fun a hF => ?_
    refine s_end (hK9 _ _ ?_)
    refine wp_seq_k fun K10 hK10 => ?_
    refine wp_iff hF rfl (fun hc14 => ?_) (fun hc14 => ?_)
    · obtain ⟨b1, off1, c1, hve, hrow1⟩ := rd_rowI hV (i := i) (by omega)
      cases hve
      obtain ⟨b2, off2, c2, hve, hrow2⟩ := rd_rowI hU (i := i) (by omega)
      cases hve
      refine wp_skip (hK10 _ _ ?_)
      refine wp_seq_k fun K11 hK11 => ?_
      refine wp_block ?_
      refine wp_rs fun K12 hK12 => ?_
      refine s_val hF (x_move rfl) (by decide) fun a hF => ?_
      refine s_val hF (x_assign rfl) (by decide) fun a hF => ?_
      refine s_end (hK12 _ _ ?_)
      refine dk2_seq (w.heap.size) (w.heap.size) (ops := regOps Try.f139 6) (N := 9) (by kernel_rfl) wide_orders (by kernel_rfl) fun w2 hw2 B3 hS K13 hK13 => ?_
      have zw2 : w2.heap.size = w.heap.size := by rw [hw2]
      have sB3 := B3.size
      have hB := hB.trans (B3.mono hB.size)
      have hB_d := hB
      refine d_val 0 16 (op := (Go.Op.move (Go.Operand.tmp 0))) hF hS (by kernel_rfl) (fun W hW => x_move rfl) (by kernel_rfl) (by decide) fun a hF => ?_
      refine d_val 1 17 (op := (Go.Op.move (Go.Operand.tmp 5))) hF hS (by kernel_rfl) (fun W hW => x_move rfl) (by kernel_rfl) (by decide) fun a hF => ?_
      refine d_val 2 18 (op := (Go.Op.indexAddr 95 (Go.Operand.tmp 16) (Go.Operand.tmp 17))) hF hS (by kernel_rfl) (fun W hW => x_ixa rfl rfl (m_ixs i Try.underlying95 el29.size rfl (by omega))) (by kernel_rfl) (by decide) fun a hF => ?_
      refine d_val 3 19 (op := (Go.Op.load 3 (Go.Operand.tmp 18))) hF hS (by kernel_rfl) (fun W hW => x_load rfl (m_load flat3 (hrow1 _ (hW.under hB_d (by omega))))) (by kernel_rfl) (by decide) fun a hF => ?_
      refine d_val 4 20 (op := (Go.Op.move (Go.Operand.tmp 1))) hF hS (by kernel_rfl) (fun W hW => x_move rfl) (by kernel_rfl) (by decide) fun a hF => ?_
      refine d_val 5 21 (op := (Go.Op.move (Go.Operand.tmp 5))) hF hS (by kernel_rfl) (fun W hW => x_move rfl) (by kernel_rfl) (by decide) fun a hF => ?_
      refine d_val 6 22 (op := (Go.Op.indexAddr 95 (Go.Operand.tmp 20) (Go.Operand.tmp 21))) hF hS (by kernel_rfl) (fun W hW => x_ixa rfl rfl (m_ixs i Try.underlying95 el29.size rfl (by omega))) (by kernel_rfl) (by decide) fun a hF => ?_
      refine d_val 7 23 (op := (Go.Op.load 3 (Go.Operand.tmp 22))) hF hS (by kernel_rfl) (fun W hW => x_load rfl (m_load flat3 (hrow2 _ (hW.under hB_d (by omega))))) (by kernel_rfl) (by decide) fun a hF => ?_
      refine d_val 8 24 (op := (Go.Op.binOp Go.BinOp.neq 3 (Go.Operand.tmp 19) (Go.Operand.tmp 23) 3)) hF hS (by kernel_rfl) (fun W hW => x_neq rfl rfl rfl) (by kernel_rfl) (by decide) fun a hF => ?_
      refine d_end (by kernel_rfl) (hK13 _ _ ?_)
      refine wp_iff hF rfl (fun hc24 => ?_) (fun hc24 => ?_)
      · refine wp_rs fun K14 hK14 => ?_
        refine s_val hF (x_assign rfl) (by decide) fun a hF => ?_
        refine s_end (hK14 _ _ ?_)
        refine wp_ret (inb_ret (then_ret (then_ret (inb_ret (then_ret (res_slot hF rfl rfl ⟨by rw [decide_eq_false (fun h => hc24 (by rw [h]))], hB⟩))))))
      · refine wp_skip (hK11 _ _ ?_)
        refine wp_region_lit ?_
        refine s_val hF (x_addn (i + 1) (by omega) (by omega) rfl rfl) (by decide) fun a hF => ?_
        refine s_val hF (x_move rfl) (by decide) fun a hF => ?_
        have heq2 : ks.take (i + 1) = ls.take (i + 1) := by rw [List.take_add_one, List.take_add_one, heq, List.getElem?_eq_getElem (by omega), List.getElem?_eq_getElem (by omega)]; rw [gt_lt (by omega), gt_lt (by omega)] at hc24; rw [show ks[i] = ls[i] by omega]
        refine s_end (hK' _ _ (by omega) ⟨heq2, hB, hF.sub _ rfl⟩)
    · refine wp_exit (hK7 _ _ ?_)
      refine wp_rs fun K15 hK15 => ?_
      refine s_val hF (x_assign rfl) (by decide) fun a hF => ?_
      refine s_end (hK15 _ _ ?_)
      refine wp_ret (res_slot hF rfl rfl ⟨by rw [decide_eq_true (show ks = ls by rw [← List.take_of_length_le (l := ks) (i := i) (by omega), ← List.take_of_length_le (l := ls) (i := i) (by omega)]; exact heq)], hB⟩)

set_option maxRecDepth 100000 in
set_option maxHeartbeats 1600000 in
theorem settle47 (base g o : Nat) (v : Value) (c : Int) (ks : List Int) (w1 : World) (hA : FA 122 base w1 g o v c ks) (hks : ks.length ≤ 3000) (hLo : Lo ks) (hc : 0 ≤ c) :
    Calls Try.prog 111 #[.pointer (some ⟨g, 0, none⟩)] w1 fun e w' => ∃ u, e = .returned u ∧ (u = .tuple #[] ∧ FA 122 base w' g o v (setl c ks) ks) ∧ Ktw g o w1 w' := by
  have hK := Ktw.refl g o w1
  have hlo := hA.lo
  obtain ⟨av, cv, rfl, hcv⟩ := hA.form
  have mg := hA.blk
  have hO := hA.own
  have hat := hA.at'
  have hne := hA.ne
  have hgl := mg.lt
  refine calls_fs 23 [(0, .pointer (some ⟨g, 0, none⟩))] Try.func111 rfl rfl rfl rfl rfl fun a hF => ?_
  rcases (show ks.length = 0 ∨ (0 < ks.length ∧ c ≤ mxl ks) ∨ (0 < ks.length ∧ mxl ks < c) by omega) with hq | hq | hq
  · have hz : setl c ks = c := by rw [List.eq_nil_of_length_eq_zero hq]; have := setl_is c []; have h2 : mxl [] = -1 := rfl; omega
    refine dk2_seq (w1.heap.size) (w1.heap.size) (ops := regOps Try.f111 0) (N := 18) (by kernel_rfl) wide_orders (by kernel_rfl) fun w2 hw2 B3 hS K2 hK2 => ?_
    have zw2 : w2.heap.size = w1.heap.size := by rw [hw2]
    have sB3 := B3.size
    have hK := hK.below B3
    have mg := mg.old B3
    have hO := own_below hO B3
    have mg_d := mg
    have hO_d := hO
    have hK_d := hK
    refine d_val 0 2 (op := (Go.Op.move (Go.Operand.tmp 0))) hF hS (by kernel_rfl) (fun W hW => x_move rfl) (by kernel_rfl) (by decide) fun a hF => ?_
    refine d_val 1 3 (op := (Go.Op.nilCheck (Go.Operand.tmp 2))) hF hS (by kernel_rfl) (fun W hW => x_nil rfl) (by kernel_rfl) (by decide) fun a hF => ?_
    refine d_val 2 4 (op := (Go.Op.fieldAddr 122 (Go.Operand.tmp 3) 1)) hF hS (by kernel_rfl) (fun W hW => x_fa0 fa59_1 rfl) (by kernel_rfl) (by decide) fun a hF => ?_
    refine d_val 3 5 (op := (Go.Op.load 95 (Go.Operand.tmp 4))) hF hS (by kernel_rfl) (fun W hW => x_load rfl (m_load flat29 ((mg_d.k2 hW (by omega)).cell (j := 1) rfl))) (by kernel_rfl) (by decide) fun a hF => ?_
    refine d_val 4 6 (op := (Go.Op.call (Go.Call.mk (Go.Callee.builtin Go.Builtin.len) #[(Go.Operand.tmp 5)] #[95]))) hF hS (by kernel_rfl) (fun W hW => x_len Try.underlying95 rfl) (by kernel_rfl) (by decide) fun a hF => ?_
    refine d_val 5 7 (op := (Go.Op.binOp Go.BinOp.gtr 3 (Go.Operand.tmp 6) (Go.Operand.const (Go.Value.int Go.IntKind.i64 0)) 3)) hF hS (by kernel_rfl) (fun W hW => x_gtr (b := false) (decide_eq_false (by omega)) rfl rfl) (by kernel_rfl) (by decide) fun a hF => ?_
    refine d_val 6 8 (op := (Go.Op.move (Go.Operand.tmp 7))) hF hS (by kernel_rfl) (fun W hW => x_move rfl) (by kernel_rfl) (by decide) fun a hF => ?_
    refine d_skip 7 9 8 (j := 6) (want := true) (op := (Go.Op.move (Go.Operand.tmp 0))) hF hS (by kernel_rfl) (by kernel_rfl) rfl (by kernel_rfl) (by decide) fun a hF => ?_
    refine d_skip 8 10 8 (j := 6) (want := true) (op := (Go.Op.nilCheck (Go.Operand.tmp 9))) hF hS (by kernel_rfl) (by kernel_rfl) rfl (by kernel_rfl) (by decide) fun a hF => ?_
    refine d_skip 9 11 8 (j := 6) (want := true) (op := (Go.Op.fieldAddr 122 (Go.Operand.tmp 10) 1)) hF hS (by kernel_rfl) (by kernel_rfl) rfl (by kernel_rfl) (by decide) fun a hF => ?_
    refine d_skip 10 12 8 (j := 6) (want := true) (op := (Go.Op.load 95 (Go.Operand.tmp 11))) hF hS (by kernel_rfl) (by kernel_rfl) rfl (by kernel_rfl) (by decide) fun a hF => ?_
    refine d_skip 11 13 8 (j := 6) (want := true) (op := (Go.Op.call (Go.Call.mk (Go.Callee.value (Go.Operand.func 118)) #[(Go.Operand.tmp 12)] #[95]))) hF hS (by kernel_rfl) (by kernel_rfl) rfl (by kernel_rfl) (by decide) fun a hF => ?_
    refine d_skip 12 14 8 (j := 6) (want := true) (op := (Go.Op.move (Go.Operand.tmp 0))) hF hS (by kernel_rfl) (by kernel_rfl) rfl (by kernel_rfl) (by decide) fun a hF => ?_
    refine d_skip 13 15 8 (j := 6) (want := true) (op := (Go.Op.nilCheck (Go.Operand.tmp 14))) hF hS (by kernel_rfl) (by kernel_rfl) rfl (by kernel_rfl) (by decide) fun a hF => ?_
    refine d_skip 14 16 8 (j := 6) (want := true) (op := (Go.Op.fieldAddr 122 (Go.Operand.tmp 15) 0)) hF hS (by kernel_rfl) (by kernel_rfl) rfl (by kernel_rfl) (by decide) fun a hF => ?_
    refine d_skip 15 17 8 (j := 6) (want := true) (op := (Go.Op.load 3 (Go.Operand.tmp 16))) hF hS (by kernel_rfl) (by kernel_rfl) rfl (by kernel_rfl) (by decide) fun a hF => ?_
    refine d_skip 16 18 8 (j := 6) (want := true) (op := (Go.Op.binOp Go.BinOp.geq 3 (Go.Operand.tmp 13) (Go.Operand.tmp 17) 3)) hF hS (by kernel_rfl) (by kernel_rfl) rfl (by kernel_rfl) (by decide) fun a hF => ?_
    refine d_val 17 19 (op := (Go.Op.pick (Go.Operand.tmp 8) (Go.Operand.tmp 18) (Go.Operand.const (Go.Value.bool false)))) hF hS (by kernel_rfl) (fun W hW => x_pick (b := false) rfl rfl) (by kernel_rfl) (by decide) fun a hF => ?_
    refine d_end (by kernel_rfl) (hK2 _ _ ?_)
    refine wp_if hF rfl ?_
    refine wp_skip ?_
    show bodyPost Try.prog Try.f111 (_) .normal a w2
    refine post_normal (res_none hF rfl ⟨_, rfl, ⟨rfl, ⟨by rw [hz]; exact mg, hO, hat, hne, by have := hK.size; omega⟩⟩, hK⟩)
  · have hz : setl c ks = 0 := by have := setl_is c ks; omega
    refine dk2_seq (w1.heap.size) (w1.heap.size) (ops := regOps Try.f111 0) (N := 18) (by kernel_rfl) wide_orders (by kernel_rfl) fun w4 hw4 B5 hS K3 hK3 => ?_
    have zw4 : w4.heap.size = w1.heap.size := by rw [hw4]
    have sB5 := B5.size
    have hK := hK.below B5
    have mg := mg.old B5
    have hO := own_below hO B5
    have mg_d := mg
    have hO_d := hO
    have hK_d := hK
    refine d_val 0 2 (op := (Go.Op.move (Go.Operand.tmp 0))) hF hS (by kernel_rfl) (fun W hW => x_move rfl) (by kernel_rfl) (by decide) fun a hF => ?_
    refine d_val 1 3 (op := (Go.Op.nilCheck (Go.Operand.tmp 2))) hF hS (by kernel_rfl) (fun W hW => x_nil rfl) (by kernel_rfl) (by decide) fun a hF => ?_
    refine d_val 2 4 (op := (Go.Op.fieldAddr 122 (Go.Operand.tmp 3) 1)) hF hS (by kernel_rfl) (fun W hW => x_fa0 fa59_1 rfl) (by kernel_rfl) (by decide) fun a hF => ?_
    refine d_val 3 5 (op := (Go.Op.load 95 (Go.Operand.tmp 4))) hF hS (by kernel_rfl) (fun W hW => x_load rfl (m_load flat29 ((mg_d.k2 hW (by omega)).cell (j := 1) rfl))) (by kernel_rfl) (by decide) fun a hF => ?_
    refine d_val 4 6 (op := (Go.Op.call (Go.Call.mk (Go.Callee.builtin Go.Builtin.len) #[(Go.Operand.tmp 5)] #[95]))) hF hS (by kernel_rfl) (fun W hW => x_len Try.underlying95 rfl) (by kernel_rfl) (by decide) fun a hF => ?_
    refine d_val 5 7 (op := (Go.Op.binOp Go.BinOp.gtr 3 (Go.Operand.tmp 6) (Go.Operand.const (Go.Value.int Go.IntKind.i64 0)) 3)) hF hS (by kernel_rfl) (fun W hW => x_gtr (b := true) (decide_eq_true (by omega)) rfl rfl) (by kernel_rfl) (by decide) fun a hF => ?_
    refine d_val 6 8 (op := (Go.Op.move (Go.Operand.tmp 7))) hF hS (by kernel_rfl) (fun W hW => x_move rfl) (by kernel_rfl) (by decide) fun a hF => ?_
    refine d_valg 7 9 8 (j := 6) (want := true) (op := (Go.Op.move (Go.Operand.tmp 0))) hF hS (by kernel_rfl) (by kernel_rfl) rfl (fun W hW => x_move rfl) (by kernel_rfl) (by decide) fun a hF => ?_
    refine d_valg 8 10 8 (j := 6) (want := true) (op := (Go.Op.nilCheck (Go.Operand.tmp 9))) hF hS (by kernel_rfl) (by kernel_rfl) rfl (fun W hW => x_nil rfl) (by kernel_rfl) (by decide) fun a hF => ?_
    refine d_valg 9 11 8 (j := 6) (want := true) (op := (Go.Op.fieldAddr 122 (Go.Operand.tmp 10) 1)) hF hS (by kernel_rfl) (by kernel_rfl) rfl (fun W hW => x_fa0 fa59_1 rfl) (by kernel_rfl) (by decide) fun a hF => ?_
    refine d_valg 10 12 8 (j := 6) (want := true) (op := (Go.Op.load 95 (Go.Operand.tmp 11))) hF hS (by kernel_rfl) (by kernel_rfl) rfl (fun W hW => x_load rfl (m_load flat29 ((mg_d.k2 hW (by omega)).cell (j := 1) rfl))) (by kernel_rfl) (by decide) fun a hF => ?_
    refine d_valg 12 14 8 (j := 6) (want := true) (op := (Go.Op.move (Go.Operand.tmp 0))) hF hS (by kernel_rfl) (by kernel_rfl) rfl (fun W hW => x_move rfl) (by kernel_rfl) (by decide) fun a hF => ?_
    refine d_valg 13 15 8 (j := 6) (want := true) (op := (Go.Op.nilCheck (Go.Operand.tmp 14))) hF hS (by kernel_rfl) (by kernel_rfl) rfl (fun W hW => x_nil rfl) (by kernel_rfl) (by decide) fun a hF => ?_
    refine d_valg 14 16 8 (j := 6) (want := true) (op := (Go.Op.fieldAddr 122 (Go.Operand.tmp 15) 0)) hF hS (by kernel_rfl) (by kernel_rfl) rfl (fun W hW => x_fa0 fa59_0 rfl) (by kernel_rfl) (by decide) fun a hF => ?_
    refine d_valg 15 17 8 (j := 6) (want := true) (op := (Go.Op.load 3 (Go.Operand.tmp 16))) hF hS (by kernel_rfl) (by kernel_rfl) rfl (fun W hW => x_load rfl (m_load flat3 ((mg_d.k2 hW (by omega)).cell (j := 0) rfl))) (by kernel_rfl) (by decide) fun a hF => ?_
    refine d_oneg 11 8 (some 13) (Go.Op.call (Go.Call.mk (Go.Callee.value (Go.Operand.func 118)) #[(Go.Operand.tmp 12)] #[95])) (j := 6) (want := true) hF (by kernel_rfl) (by kernel_rfl) (by kernel_rfl) rfl fun ty pos af => ?_
    refine s_callS [_] hF (enters_of Try.func118 (by kernel_rfl) rfl) rfl (by decide) (max63 ks _ _ (by omega) (by omega) hLo (Rd.own hO)) fun a hF => ?_
    refine s_end ⟨hS, ?_⟩
    refine d_valg 16 18 8 (j := 6) (want := true) (op := (Go.Op.binOp Go.BinOp.geq 3 (Go.Operand.tmp 13) (Go.Operand.tmp 17) 3)) hF hS (by kernel_rfl) (by kernel_rfl) rfl (fun W hW => x_geq (b := true) (decide_eq_true (by omega)) rfl rfl) (by kernel_rfl) (by decide) fun a hF => ?_
    refine d_val 17 19 (op := (Go.Op.pick (Go.Operand.tmp 8) (Go.Operand.tmp 18) (Go.Operand.const (Go.Value.bool false)))) hF hS (by kernel_rfl) (fun W hW => x_pick (b := true) rfl rfl) (by kernel_rfl) (by decide) fun a hF => ?_
    refine d_end (by kernel_rfl) (hK3 _ _ ?_)
    refine wp_if hF rfl ?_
    refine wp_region_lit ?_
    refine s_val hF (x_move rfl) (by decide) fun a hF => ?_
    refine s_val hF (x_nil rfl) (by decide) fun a hF => ?_
    refine s_val hF (x_fa0 fa59_0 rfl) (by decide) fun a hF => ?_
    refine s_put hF rfl rfl flat3 mg (by simp) rfl fun w6 mg o7 => ?_
    have so7 := o7.size
    have hK := hK.only o7 (by omega)
    have hO := own_only hO o7 (hne)
    refine s_end ?_
    show bodyPost Try.prog Try.f111 (_) .normal a w6
    refine post_normal (res_none hF rfl ⟨_, rfl, ⟨rfl, ⟨by rw [hz]; exact mg, hO, hat, hne, by have := hK.size; omega⟩⟩, hK⟩)
  · have hz : setl c ks = c := by have := setl_is c ks; omega
    refine dk2_seq (w1.heap.size) (w1.heap.size) (ops := regOps Try.f111 0) (N := 18) (by kernel_rfl) wide_orders (by kernel_rfl) fun w8 hw8 B9 hS K4 hK4 => ?_
    have zw8 : w8.heap.size = w1.heap.size := by rw [hw8]
    have sB9 := B9.size
    have hK := hK.below B9
    have mg := mg.old B9
    have hO := own_below hO B9
    have mg_d := mg
    have hO_d := hO
    have hK_d := hK
    refine d_val 0 2 (op := (Go.Op.move (Go.Operand.tmp 0))) hF hS (by kernel_rfl) (fun W hW => x_move rfl) (by kernel_rfl) (by decide) fun a hF => ?_
    refine d_val 1 3 (op := (Go.Op.nilCheck (Go.Operand.tmp 2))) hF hS (by kernel_rfl) (fun W hW => x_nil rfl) (by kernel_rfl) (by decide) fun a hF => ?_
    refine d_val 2 4 (op := (Go.Op.fieldAddr 122 (Go.Operand.tmp 3) 1)) hF hS (by kernel_rfl) (fun W hW => x_fa0 fa59_1 rfl) (by kernel_rfl) (by decide) fun a hF => ?_
    refine d_val 3 5 (op := (Go.Op.load 95 (Go.Operand.tmp 4))) hF hS (by kernel_rfl) (fun W hW => x_load rfl (m_load flat29 ((mg_d.k2 hW (by omega)).cell (j := 1) rfl))) (by kernel_rfl) (by decide) fun a hF => ?_
    refine d_val 4 6 (op := (Go.Op.call (Go.Call.mk (Go.Callee.builtin Go.Builtin.len) #[(Go.Operand.tmp 5)] #[95]))) hF hS (by kernel_rfl) (fun W hW => x_len Try.underlying95 rfl) (by kernel_rfl) (by decide) fun a hF => ?_
    refine d_val 5 7 (op := (Go.Op.binOp Go.BinOp.gtr 3 (Go.Operand.tmp 6) (Go.Operand.const (Go.Value.int Go.IntKind.i64 0)) 3)) hF hS (by kernel_rfl) (fun W hW => x_gtr (b := true) (decide_eq_true (by omega)) rfl rfl) (by kernel_rfl) (by decide) fun a hF => ?_
    refine d_val 6 8 (op := (Go.Op.move (Go.Operand.tmp 7))) hF hS (by kernel_rfl) (fun W hW => x_move rfl) (by kernel_rfl) (by decide) fun a hF => ?_
    refine d_valg 7 9 8 (j := 6) (want := true) (op := (Go.Op.move (Go.Operand.tmp 0))) hF hS (by kernel_rfl) (by kernel_rfl) rfl (fun W hW => x_move rfl) (by kernel_rfl) (by decide) fun a hF => ?_
    refine d_valg 8 10 8 (j := 6) (want := true) (op := (Go.Op.nilCheck (Go.Operand.tmp 9))) hF hS (by kernel_rfl) (by kernel_rfl) rfl (fun W hW => x_nil rfl) (by kernel_rfl) (by decide) fun a hF => ?_
    refine d_valg 9 11 8 (j := 6) (want := true) (op := (Go.Op.fieldAddr 122 (Go.Operand.tmp 10) 1)) hF hS (by kernel_rfl) (by kernel_rfl) rfl (fun W hW => x_fa0 fa59_1 rfl) (by kernel_rfl) (by decide) fun a hF => ?_
    refine d_valg 10 12 8 (j := 6) (want := true) (op := (Go.Op.load 95 (Go.Operand.tmp 11))) hF hS (by kernel_rfl) (by kernel_rfl) rfl (fun W hW => x_load rfl (m_load flat29 ((mg_d.k2 hW (by omega)).cell (j := 1) rfl))) (by kernel_rfl) (by decide) fun a hF => ?_
    refine d_valg 12 14 8 (j := 6) (want := true) (op := (Go.Op.move (Go.Operand.tmp 0))) hF hS (by kernel_rfl) (by kernel_rfl) rfl (fun W hW => x_move rfl) (by kernel_rfl) (by decide) fun a hF => ?_
    refine d_valg 13 15 8 (j := 6) (want := true) (op := (Go.Op.nilCheck (Go.Operand.tmp 14))) hF hS (by kernel_rfl) (by kernel_rfl) rfl (fun W hW => x_nil rfl) (by kernel_rfl) (by decide) fun a hF => ?_
    refine d_valg 14 16 8 (j := 6) (want := true) (op := (Go.Op.fieldAddr 122 (Go.Operand.tmp 15) 0)) hF hS (by kernel_rfl) (by kernel_rfl) rfl (fun W hW => x_fa0 fa59_0 rfl) (by kernel_rfl) (by decide) fun a hF => ?_
    refine d_valg 15 17 8 (j := 6) (want := true) (op := (Go.Op.load 3 (Go.Operand.tmp 16))) hF hS (by kernel_rfl) (by kernel_rfl) rfl (fun W hW => x_load rfl (m_load flat3 ((mg_d.k2 hW (by omega)).cell (j := 0) rfl))) (by kernel_rfl) (by decide) fun a hF => ?_
    refine d_oneg 11 8 (some 13) (Go.Op.call (Go.Call.mk (Go.Callee.value (Go.Operand.func 118)) #[(Go.Operand.tmp 12)] #[95])) (j := 6) (want := true) hF (by kernel_rfl) (by kernel_rfl) (by kernel_rfl) rfl fun ty pos af => ?_
    refine s_callS [_] hF (enters_of Try.func118 (by kernel_rfl) rfl) rfl (by decide) (max63 ks _ _ (by omega) (by omega) hLo (Rd.own hO)) fun a hF => ?_
    refine s_end ⟨hS, ?_⟩
    refine d_valg 16 18 8 (j := 6) (want := true) (op := (Go.Op.binOp Go.BinOp.geq 3 (Go.Operand.tmp 13) (Go.Operand.tmp 17) 3)) hF hS (by kernel_rfl) (by kernel_rfl) rfl (fun W hW => x_geq (b := false) (decide_eq_false (by omega)) rfl rfl) (by kernel_rfl) (by decide) fun a hF => ?_
    refine d_val 17 19 (op := (Go.Op.pick (Go.Operand.tmp 8) (Go.Operand.tmp 18) (Go.Operand.const (Go.Value.bool false)))) hF hS (by kernel_rfl) (fun W hW => x_pick (b := true) rfl rfl) (by kernel_rfl) (by decide) fun a hF => ?_
    refine d_end (by kernel_rfl) (hK4 _ _ ?_)
    refine wp_if hF rfl ?_
    refine wp_skip ?_
    show bodyPost Try.prog Try.f111 (_) .normal a w8
    refine post_normal (res_none hF rfl ⟨_, rfl, ⟨rfl, ⟨by rw [hz]; exact mg, hO, hat, hne, by have := hK.size; omega⟩⟩, hK⟩)
end Go.Proofs.Ytaclncmkdpjnlaa
