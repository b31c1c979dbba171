/- check, May, isSound; the reference's may, May, sound, Sound. -/
import Derived.Test.YtbhhbfdoadecgaaLev1
namespace Go.Proofs.Ytbhhbfdoadecgaa
open Go.RowKit Go.Shelf
set_option linter.unusedVariables false
set_option linter.unusedSimpArgs false

theorem chk_two {D top vars d : Int} {r : Nat} {k n : Int} {ls : List Lv} (h : D < d ∨ r = 0) : (chk D top vars d r (.mk k n ls)).1 = 2 := by
 have e : nodeE D top vars d r k n ls.length = 2 := by rw [nodeE, if_pos h]
 rw [chk_out (by rw [e]; decide), e]
theorem chk_one {D top vars d : Int} {r : Nat} {k n : Int} {ls : List Lv} (h : ¬ (D < d ∨ r = 0)) (h1 : kidsB k ls.length = false ∨ numB top k n = false) : (chk D top vars d r (.mk k n ls)).1 = 1 := by
 have e : nodeE D top vars d r k n ls.length = 1 := by rw [nodeE, if_neg h, if_pos h1]
 rw [chk_out (by rw [e]; decide), e]
theorem chk_ten {D top vars d : Int} {r : Nat} {k n : Int} {ls : List Lv} (h : ¬ (D < d ∨ r = 0)) (h1 : kidsB k ls.length = true) (h2 : numB top k n = true) (h3 : k = 2 ∧ (n < 0 ∨ vars ≤ n)) : (chk D top vars d r (.mk k n ls)).1 = 10 := by
 have e : nodeE D top vars d r k n ls.length = 10 := by rw [nodeE, if_neg h, if_neg (by rw [h1, h2]; simp), if_pos h3]
 rw [chk_out (by rw [e]; decide), e]
theorem RL.one1 {W : World} {x : C3} {l : Lv} (h : RL W x l) : x.2.2.oneCell' = true := by
 obtain ⟨_, _, h⟩ := h.slice
 exact h.one
theorem drop_at {α : Type} {ls : List α} {i : Nat} {l : α} (h : ls[i]? = some l) : ls.drop i = l :: ls.drop (i + 1) := by
 obtain ⟨hi, rfl⟩ := List.getElem?_eq_some_iff.1 h
 exact List.drop_eq_getElem_cons hi
theorem arI_kids {k : Int} {len : Nat} : kidsB k len = true ↔ 0 ≤ arI k ∧ (len : Int) = arI k := by
 rw [kidsB_iff]
 unfold arI
 split
 ·
  omega
 ·
  split
  ·
   omega
  ·
   split
   ·
    omega
   ·
    omega
theorem arI_no {k : Int} {len : Nat} (h : arI k < 0 ∨ (len : Int) ≠ arI k) : kidsB k len = false := Bool.eq_false_iff.2 fun h1 => by have := arI_kids.1 h1; omega
theorem numB_no {top k n : Int} (h : ¬ ((k = 1 → 0 ≤ n ∧ n ≤ top) ∧ (k = 3 → 1 ≤ n ∧ n ≤ top))) : numB top k n = false := Bool.eq_false_iff.2 fun h1 => h (numB_iff.1 h1)
theorem kids_le {k : Int} {len : Nat} (h : kidsB k len = true) : len ≤ 2 := by
 have := kidsB_iff.1 h
 omega
theorem int_of {x y : Int} (h : x = y) : Value.int .i64 x = Value.int .i64 y := by rw [h]

set_option maxRecDepth 100000 in
set_option maxHeartbeats 1600000 in
theorem check34 (D top vars : Int) (hD : D ≤ 256) (w0 : World) (g : Nat) (hg : w0.heap.size ≤ g) : ∀ (x : C3) (l : Lv), RL w0 x l → ∀ (d : Int) (r : Nat) (w1 : World), 1 ≤ d → d ≤ 300 → r ≤ 1000 → Below w0.heap.size w0 w1 → Blk w1 g 165 [.int .i64 D, .int .i64 (r : Int), .int .i64 top, .int .i64 vars] →
  Calls Try.prog 153 #[lv x, .int .i64 d, .pointer (some ⟨g, 0, none⟩)] w1 fun e w' => ∃ v, e = .returned v ∧ (v = .int .i64 (chk D top vars d r l).1 ∧ ((chk D top vars d r l).1 = 0 → Blk w' g 165 [.int .i64 D, .int .i64 ((chk D top vars d r l).2 : Int), .int .i64 top, .int .i64 vars])) ∧ Ktw g g w1 w' := by
 intro x l h
 induction h with
 | @mk k n v xs ls hR hl hk hbd9 ih =>
 intro d r w1 hd1 hd2 hr hB mg
 obtain ⟨av, cv, rfl, _⟩ := hR.form
 have hK := Ktw.refl g g w1
 have sB := hB.size
 have hgl := mg.lt
 refine calls_fs 75 [(0, .agg [.int .i64 k, .int .i64 n, .slice av xs.length cv].toArray), (1, .int .i64 d), (2, .pointer (some ⟨g, 0, none⟩))] Try.func153 rfl rfl rfl rfl rfl fun a hF => ?_
 refine wp_rs fun K1 hK1 => ?_
 refine s_box ([.int .i64 k, .int .i64 n, .slice av xs.length cv]) hF (by decide) rfl rfl fun w2 b3 a eb3 m3 B3 zb3 hF => ?_
 have sB3 := B3.size
 have hB := bt hB B3
 have hK := hK.below B3
 have mg := mg.old B3
 refine hF.v (x_assign rfl) fun a hF => ?_
 refine s_end (hK1 _ _ ?_)
 refine wp_seq_k fun K2 hK2 => ?_
 rcases (show D < d ∨ (d ≤ D ∧ r = 0) ∨ (d ≤ D ∧ r ≠ 0) by omega) with hp | hp | hp
 ·
  skip
  refine wp_rs fun K4 hK4 => ?_
  refine hF.v (x_move rfl) fun a hF => ?_
  refine hF.v (x_move rfl) fun a hF => ?_
  refine hF.v (x_nil rfl) fun a hF => ?_
  refine hF.v (x_fa0 fa54_0 rfl) fun a hF => ?_
  refine hF.v (x_load rfl (m_load flat3 (mg.cell (j := 0) rfl))) fun a hF => ?_
  refine hF.v (gtrT (by omega) rfl rfl) fun a hF => ?_
  refine hF.v (x_move rfl) fun a hF => ?_
  refine s_grdn 16 hF rfl rfl (by decide) fun a hF => ?_
  refine s_grdn 16 hF rfl rfl (by decide) fun a hF => ?_
  refine s_grdn 16 hF rfl rfl (by decide) fun a hF => ?_
  refine s_grdn 16 hF rfl rfl (by decide) fun a hF => ?_
  refine s_grdn 16 hF rfl rfl (by decide) fun a hF => ?_
  refine hF.v (x_pick (b := true) rfl rfl) fun a hF => ?_
  refine s_end (hK4 _ _ ?_)
  refine wp_if hF rfl ?_
  refine wp_rs fun K5 hK5 => ?_
  refine hF.v (x_assign rfl) fun a hF => ?_
  refine s_end (hK5 _ _ ?_)
  refine wp_ret (then_ret (res_slot hF rfl rfl ⟨_, rfl, ⟨int_of (chk_two (by omega)).symm, fun h => absurd ((chk_two (by omega)).symm.trans h) (by decide)⟩, hK⟩))
 ·
  skip
  refine wp_rs fun K6 hK6 => ?_
  refine hF.v (x_move rfl) fun a hF => ?_
  refine hF.v (x_move rfl) fun a hF => ?_
  refine hF.v (x_nil rfl) fun a hF => ?_
  refine hF.v (x_fa0 fa54_0 rfl) fun a hF => ?_
  refine hF.v (x_load rfl (m_load flat3 (mg.cell (j := 0) rfl))) fun a hF => ?_
  refine hF.v (gtrF (by omega) rfl rfl) fun a hF => ?_
  refine hF.v (x_move rfl) fun a hF => ?_
  refine s_grd 16 hF rfl rfl rfl ?_
  refine hF.v (x_move rfl) fun a hF => ?_
  refine s_grd 16 hF rfl rfl rfl ?_
  refine hF.v (x_nil rfl) fun a hF => ?_
  refine s_grd 16 hF rfl rfl rfl ?_
  refine hF.v (x_fa0 fa54_1 rfl) fun a hF => ?_
  refine s_grd 16 hF rfl rfl rfl ?_
  refine hF.v (x_load rfl (m_load flat3 (mg.cell (j := 1) rfl))) fun a hF => ?_
  refine s_grd 16 hF rfl rfl rfl ?_
  refine hF.v (eqlT (by omega) rfl rfl) fun a hF => ?_
  refine hF.v (x_pick (b := false) rfl rfl) fun a hF => ?_
  refine s_end (hK6 _ _ ?_)
  refine wp_if hF rfl ?_
  refine wp_rs fun K7 hK7 => ?_
  refine hF.v (x_assign rfl) fun a hF => ?_
  refine s_end (hK7 _ _ ?_)
  refine wp_ret (then_ret (res_slot hF rfl rfl ⟨_, rfl, ⟨int_of (chk_two (by omega)).symm, fun h => absurd ((chk_two (by omega)).symm.trans h) (by decide)⟩, hK⟩))
 ·
  skip
  refine wp_rs fun K8 hK8 => ?_
  refine hF.v (x_move rfl) fun a hF => ?_
  refine hF.v (x_move rfl) fun a hF => ?_
  refine hF.v (x_nil rfl) fun a hF => ?_
  refine hF.v (x_fa0 fa54_0 rfl) fun a hF => ?_
  refine hF.v (x_load rfl (m_load flat3 (mg.cell (j := 0) rfl))) fun a hF => ?_
  refine hF.v (gtrF (by omega) rfl rfl) fun a hF => ?_
  refine hF.v (x_move rfl) fun a hF => ?_
  refine s_grd 16 hF rfl rfl rfl ?_
  refine hF.v (x_move rfl) fun a hF => ?_
  refine s_grd 16 hF rfl rfl rfl ?_
  refine hF.v (x_nil rfl) fun a hF => ?_
  refine s_grd 16 hF rfl rfl rfl ?_
  refine hF.v (x_fa0 fa54_1 rfl) fun a hF => ?_
  refine s_grd 16 hF rfl rfl rfl ?_
  refine hF.v (x_load rfl (m_load flat3 (mg.cell (j := 1) rfl))) fun a hF => ?_
  refine s_grd 16 hF rfl rfl rfl ?_
  refine hF.v (eqlF (by omega) rfl rfl) fun a hF => ?_
  refine hF.v (x_pick (b := false) rfl rfl) fun a hF => ?_
  refine s_end (hK8 _ _ ?_)
  refine wp_if hF rfl ?_
  refine wp_skip (hK2 _ _ ?_)
  refine wp_rs fun K9 hK9 => ?_
  refine hF.v (x_move rfl) fun a hF => ?_
  refine hF.v (x_nil rfl) fun a hF => ?_
  refine hF.v (x_fa0 fa54_1 rfl) fun a hF => ?_
  refine hF.v (x_load rfl (m_load flat3 (mg.cell (j := 1) rfl))) fun a hF => ?_
  refine hF.v (x_subn (r - 1) (by omega) (by omega) rfl rfl) fun a hF => ?_
  refine hF.v (x_nil rfl) fun a hF => ?_
  refine hF.v (x_fa0 fa54_1 rfl) fun a hF => ?_
  refine s_put hF rfl rfl flat3 mg (by simp) rfl fun w4 mg o5 => ?_
  have so5 := o5.size
  have hB := hB.trans (o5.below (by omega))
  have hK := hK.only o5 (by omega)
  have m3 := m3.only o5 (by omega)
  refine s_end (hK9 _ _ ?_)
  refine wp_seq_k fun K10 hK10 => ?_
  rcases (show kidsB k xs.length = false ∨ (kidsB k xs.length = true ∧ numB top k n = false) ∨ (kidsB k xs.length = true ∧ numB top k n = true) by cases kidsB k xs.length <;> cases numB top k n <;> simp) with hkb | ⟨hkb, hnb⟩ | ⟨hkb, hnb⟩
  ·
   have hq : kidsB k ls.length = false ∨ numB top k n = false := .inl (by rw [← hl]; exact hkb)
   refine dk2_seq (w4.heap.size) (w4.heap.size) (ops := regOps Try.f153 4) (N := 12) (by kernel_rfl) wide_orders (by kernel_rfl) fun w6 hw6 B7 hS K12 hK12 => ?_
   have zw6 : w6.heap.size = w4.heap.size := by rw [hw6]
   have sB7 := B7.size
   have hB := bt hB B7
   have hK := hK.below B7
   have mg := mg.old B7
   have m3 := m3.old B7
   have mg_d := mg
   have m3_d := m3
   have hB_d := hB
   have hK_d := hK
   refine hF.d 0 30 (.load 24 (.tmp 3)) hS (fun W hW => x_ldW wide24 (m3_d.k2 hW (by omega)) rfl rfl) fun a hF => ?_
   refine d1 1 (some 31) (.call (.mk (.value (.func 162)) #[(.tmp 30)] #[24])) fun ty pos af => ?_
   refine s_callB [_] hF E162 rfl (by decide) (hasKids56 k n _ _ _ w6 (hR.below hB)) fun w8 a B9 hF => ?_
   have sB9 := B9.size
   have hK := hK.below B9
   have hS := hS.below B9
   rw [hkb] at hF
   refine s_end ⟨hS, ?_⟩
   refine hF.d 2 32 (.unOp .not 4 (.tmp 31)) hS (fun W hW => x_not rfl) fun a hF => ?_
   refine hF.d 3 33 (.move (.tmp 32)) hS (fun W hW => x_move rfl) fun a hF => ?_
   refine d_skip 4 34 33 (j := 3) (want := false) (op := (.load 24 (.tmp 3))) hF hS (by kernel_rfl) (by kernel_rfl) rfl (by kernel_rfl) (by decide) fun a hF => ?_
   refine d_skip 5 35 33 (j := 3) (want := false) (op := (.move (.tmp 2))) hF hS (by kernel_rfl) (by kernel_rfl) rfl (by kernel_rfl) (by decide) fun a hF => ?_
   refine d_skip 6 36 33 (j := 3) (want := false) (op := (.nilCheck (.tmp 35))) hF hS (by kernel_rfl) (by kernel_rfl) rfl (by kernel_rfl) (by decide) fun a hF => ?_
   refine d_skip 7 37 33 (j := 3) (want := false) (op := (.fieldAddr 165 (.tmp 36) 2)) hF hS (by kernel_rfl) (by kernel_rfl) rfl (by kernel_rfl) (by decide) fun a hF => ?_
   refine d_skip 8 38 33 (j := 3) (want := false) (op := (.load 3 (.tmp 37))) hF hS (by kernel_rfl) (by kernel_rfl) rfl (by kernel_rfl) (by decide) fun a hF => ?_
   refine d_skip 9 39 33 (j := 3) (want := false) (op := (.call (.mk (.value (.func 163)) #[(.tmp 34), (.tmp 38)] #[24, 3]))) hF hS (by kernel_rfl) (by kernel_rfl) rfl (by kernel_rfl) (by decide) fun a hF => ?_
   refine d_skip 10 40 33 (j := 3) (want := false) (op := (.unOp .not 4 (.tmp 39))) hF hS (by kernel_rfl) (by kernel_rfl) rfl (by kernel_rfl) (by decide) fun a hF => ?_
   refine hF.d 11 41 (.pick (.tmp 33) (.const (.bool true)) (.tmp 40)) hS (fun W hW => x_pick (b := true) rfl rfl) fun a hF => ?_
   refine d_end (by kernel_rfl) (hK12 _ _ ?_)
   refine wp_if hF rfl ?_
   refine wp_rs fun K13 hK13 => ?_
   refine hF.v (x_assign rfl) fun a hF => ?_
   refine s_end (hK13 _ _ ?_)
   refine wp_ret (then_ret (res_slot hF rfl rfl ⟨_, rfl, ⟨int_of (chk_one (by omega) hq).symm, fun h => absurd ((chk_one (by omega) hq).symm.trans h) (by decide)⟩, hK⟩))
  ·
   have hq : kidsB k ls.length = false ∨ numB top k n = false := .inr hnb
   refine dk2_seq (w4.heap.size) (w4.heap.size) (ops := regOps Try.f153 4) (N := 12) (by kernel_rfl) wide_orders (by kernel_rfl) fun w10 hw10 B11 hS K14 hK14 => ?_
   have zw10 : w10.heap.size = w4.heap.size := by rw [hw10]
   have sB11 := B11.size
   have hB := bt hB B11
   have hK := hK.below B11
   have mg := mg.old B11
   have m3 := m3.old B11
   have mg_d := mg
   have m3_d := m3
   have hB_d := hB
   have hK_d := hK
   refine hF.d 0 30 (.load 24 (.tmp 3)) hS (fun W hW => x_ldW wide24 (m3_d.k2 hW (by omega)) rfl rfl) fun a hF => ?_
   refine d1 1 (some 31) (.call (.mk (.value (.func 162)) #[(.tmp 30)] #[24])) fun ty pos af => ?_
   refine s_callB [_] hF E162 rfl (by decide) (hasKids56 k n _ _ _ w10 (hR.below hB)) fun w12 a B13 hF => ?_
   have sB13 := B13.size
   have hK := hK.below B13
   have hS := hS.below B13
   rw [hkb] at hF
   refine s_end ⟨hS, ?_⟩
   refine hF.d 2 32 (.unOp .not 4 (.tmp 31)) hS (fun W hW => x_not rfl) fun a hF => ?_
   refine hF.d 3 33 (.move (.tmp 32)) hS (fun W hW => x_move rfl) fun a hF => ?_
   refine hF.g 4 34 33 3 false (.load 24 (.tmp 3)) hS rfl (fun W hW => x_ldW wide24 (m3_d.k2 hW (by omega)) rfl rfl) fun a hF => ?_
   refine hF.g 5 35 33 3 false (.move (.tmp 2)) hS rfl (fun W hW => x_move rfl) fun a hF => ?_
   refine hF.g 6 36 33 3 false (.nilCheck (.tmp 35)) hS rfl (fun W hW => x_nil rfl) fun a hF => ?_
   refine hF.g 7 37 33 3 false (.fieldAddr 165 (.tmp 36) 2) hS rfl (fun W hW => x_fa0 fa54_2 rfl) fun a hF => ?_
   refine hF.g 8 38 33 3 false (.load 3 (.tmp 37)) hS rfl (fun W hW => x_load rfl (m_load flat3 ((mg_d.k2 hW (by omega)).cell (j := 2) rfl))) fun a hF => ?_
   refine d_oneg 9 33 (some 39) (.call (.mk (.value (.func 163)) #[(.tmp 34), (.tmp 38)] #[24, 3])) (j := 3) (want := false) hF (by kernel_rfl) (by kernel_rfl) (by kernel_rfl) rfl fun ty pos af => ?_
   refine s_callB [_, _] hF E163 rfl (by decide) (hasNumber57 k n top _ w12) fun w14 a B15 hF => ?_
   have sB15 := B15.size
   have hK := hK.below B15
   have hS := hS.below B15
   rw [hnb] at hF
   refine s_end ⟨hS, ?_⟩
   refine hF.g 10 40 33 3 false (.unOp .not 4 (.tmp 39)) hS rfl (fun W hW => x_not rfl) fun a hF => ?_
   refine hF.d 11 41 (.pick (.tmp 33) (.const (.bool true)) (.tmp 40)) hS (fun W hW => x_pick (b := false) rfl rfl) fun a hF => ?_
   refine d_end (by kernel_rfl) (hK14 _ _ ?_)
   refine wp_if hF rfl ?_
   refine wp_rs fun K15 hK15 => ?_
   refine hF.v (x_assign rfl) fun a hF => ?_
   refine s_end (hK15 _ _ ?_)
   refine wp_ret (then_ret (res_slot hF rfl rfl ⟨_, rfl, ⟨int_of (chk_one (by omega) hq).symm, fun h => absurd ((chk_one (by omega) hq).symm.trans h) (by decide)⟩, hK⟩))
  ·
   have hkl : kidsB k ls.length = true := by rw [← hl]; exact hkb
   refine dk2_seq (w4.heap.size) (w4.heap.size) (ops := regOps Try.f153 4) (N := 12) (by kernel_rfl) wide_orders (by kernel_rfl) fun w16 hw16 B17 hS K16 hK16 => ?_
   have zw16 : w16.heap.size = w4.heap.size := by rw [hw16]
   have sB17 := B17.size
   have hB := bt hB B17
   have hK := hK.below B17
   have mg := mg.old B17
   have m3 := m3.old B17
   have mg_d := mg
   have m3_d := m3
   have hB_d := hB
   have hK_d := hK
   refine hF.d 0 30 (.load 24 (.tmp 3)) hS (fun W hW => x_ldW wide24 (m3_d.k2 hW (by omega)) rfl rfl) fun a hF => ?_
   refine d1 1 (some 31) (.call (.mk (.value (.func 162)) #[(.tmp 30)] #[24])) fun ty pos af => ?_
   refine s_callB [_] hF E162 rfl (by decide) (hasKids56 k n _ _ _ w16 (hR.below hB)) fun w18 a B19 hF => ?_
   have sB19 := B19.size
   have hB := bt hB B19
   have hK := hK.below B19
   have mg := mg.old B19
   have m3 := m3.old B19
   have hS := hS.below B19
   rw [hkb] at hF
   refine s_end ⟨hS, ?_⟩
   refine hF.d 2 32 (.unOp .not 4 (.tmp 31)) hS (fun W hW => x_not rfl) fun a hF => ?_
   refine hF.d 3 33 (.move (.tmp 32)) hS (fun W hW => x_move rfl) fun a hF => ?_
   refine hF.g 4 34 33 3 false (.load 24 (.tmp 3)) hS rfl (fun W hW => x_ldW wide24 (m3_d.k2 hW (by omega)) rfl rfl) fun a hF => ?_
   refine hF.g 5 35 33 3 false (.move (.tmp 2)) hS rfl (fun W hW => x_move rfl) fun a hF => ?_
   refine hF.g 6 36 33 3 false (.nilCheck (.tmp 35)) hS rfl (fun W hW => x_nil rfl) fun a hF => ?_
   refine hF.g 7 37 33 3 false (.fieldAddr 165 (.tmp 36) 2) hS rfl (fun W hW => x_fa0 fa54_2 rfl) fun a hF => ?_
   refine hF.g 8 38 33 3 false (.load 3 (.tmp 37)) hS rfl (fun W hW => x_load rfl (m_load flat3 ((mg_d.k2 hW (by omega)).cell (j := 2) rfl))) fun a hF => ?_
   refine d_oneg 9 33 (some 39) (.call (.mk (.value (.func 163)) #[(.tmp 34), (.tmp 38)] #[24, 3])) (j := 3) (want := false) hF (by kernel_rfl) (by kernel_rfl) (by kernel_rfl) rfl fun ty pos af => ?_
   refine s_callB [_, _] hF E163 rfl (by decide) (hasNumber57 k n top _ w18) fun w20 a B21 hF => ?_
   have sB21 := B21.size
   have hB := bt hB B21
   have hK := hK.below B21
   have mg := mg.old B21
   have m3 := m3.old B21
   have hS := hS.below B21
   rw [hnb] at hF
   refine s_end ⟨hS, ?_⟩
   refine hF.g 10 40 33 3 false (.unOp .not 4 (.tmp 39)) hS rfl (fun W hW => x_not rfl) fun a hF => ?_
   refine hF.d 11 41 (.pick (.tmp 33) (.const (.bool true)) (.tmp 40)) hS (fun W hW => x_pick (b := false) rfl rfl) fun a hF => ?_
   refine d_end (by kernel_rfl) (hK16 _ _ ?_)
   refine wp_if hF rfl ?_
   refine wp_skip (hK10 _ _ ?_)
   refine wp_seq_k fun K17 hK17 => ?_
   rcases (show (k = 2 ∧ n < 0) ∨ (k = 2 ∧ 0 ≤ n ∧ vars ≤ n) ∨ (k = 2 ∧ 0 ≤ n ∧ n < vars) ∨ k ≠ 2 by omega) with hv | hv | hv | hv
   ·
    skip
    refine dk2_seq (w20.heap.size) (w20.heap.size) (ops := regOps Try.f153 6) (N := 17) (by kernel_rfl) wide_orders (by kernel_rfl) fun w22 hw22 B23 hS K19 hK19 => ?_
    have zw22 : w22.heap.size = w20.heap.size := by rw [hw22]
    have sB23 := B23.size
    have hB := bt hB B23
    have hK := hK.below B23
    have mg := mg.old B23
    have m3 := m3.old B23
    have mg_d := mg
    have m3_d := m3
    have hB_d := hB
    have hK_d := hK
    refine hF.d 0 42 (.fieldAddr 24 (.tmp 3) 0) hS (fun W hW => x_fa0 fa24_0 rfl) fun a hF => ?_
    refine hF.d 1 43 (.load 3 (.tmp 42)) hS (fun W hW => x_load rfl (m_load flat3 ((m3_d.k2 hW (by omega)).cell (j := 0) rfl))) fun a hF => ?_
    refine hF.d 2 44 (.binOp .eql 3 (.tmp 43) (.const (.int .i64 2)) 3) hS (fun W hW => eqlT (by omega) rfl rfl) fun a hF => ?_
    refine hF.d 3 45 (.move (.tmp 44)) hS (fun W hW => x_move rfl) fun a hF => ?_
    refine hF.g 4 46 45 3 true (.fieldAddr 24 (.tmp 3) 1) hS rfl (fun W hW => x_fa0 fa24_1 rfl) fun a hF => ?_
    refine hF.g 5 47 45 3 true (.load 3 (.tmp 46)) hS rfl (fun W hW => x_load rfl (m_load flat3 ((m3_d.k2 hW (by omega)).cell (j := 1) rfl))) fun a hF => ?_
    refine hF.g 6 48 45 3 true (.binOp .lss 3 (.tmp 47) (.const (.int .i64 0)) 3) hS rfl (fun W hW => lssT (by omega) rfl rfl) fun a hF => ?_
    refine hF.g 7 49 45 3 true (.move (.tmp 48)) hS rfl (fun W hW => x_move rfl) fun a hF => ?_
    refine d_skip 8 50 49 (j := 7) (want := false) (op := (.fieldAddr 24 (.tmp 3) 1)) hF hS (by kernel_rfl) (by kernel_rfl) rfl (by kernel_rfl) (by decide) fun a hF => ?_
    refine d_skip 9 51 49 (j := 7) (want := false) (op := (.load 3 (.tmp 50))) hF hS (by kernel_rfl) (by kernel_rfl) rfl (by kernel_rfl) (by decide) fun a hF => ?_
    refine d_skip 10 52 49 (j := 7) (want := false) (op := (.move (.tmp 2))) hF hS (by kernel_rfl) (by kernel_rfl) rfl (by kernel_rfl) (by decide) fun a hF => ?_
    refine d_skip 11 53 49 (j := 7) (want := false) (op := (.nilCheck (.tmp 52))) hF hS (by kernel_rfl) (by kernel_rfl) rfl (by kernel_rfl) (by decide) fun a hF => ?_
    refine d_skip 12 54 49 (j := 7) (want := false) (op := (.fieldAddr 165 (.tmp 53) 3)) hF hS (by kernel_rfl) (by kernel_rfl) rfl (by kernel_rfl) (by decide) fun a hF => ?_
    refine d_skip 13 55 49 (j := 7) (want := false) (op := (.load 3 (.tmp 54))) hF hS (by kernel_rfl) (by kernel_rfl) rfl (by kernel_rfl) (by decide) fun a hF => ?_
    refine d_skip 14 56 49 (j := 7) (want := false) (op := (.binOp .geq 3 (.tmp 51) (.tmp 55) 3)) hF hS (by kernel_rfl) (by kernel_rfl) rfl (by kernel_rfl) (by decide) fun a hF => ?_
    refine hF.g 15 57 45 3 true (.pick (.tmp 49) (.const (.bool true)) (.tmp 56)) hS rfl (fun W hW => x_pick (b := true) rfl rfl) fun a hF => ?_
    refine hF.d 16 58 (.pick (.tmp 45) (.tmp 57) (.const (.bool false))) hS (fun W hW => x_pick (b := true) rfl rfl) fun a hF => ?_
    refine d_end (by kernel_rfl) (hK19 _ _ ?_)
    refine wp_if hF rfl ?_
    refine wp_rs fun K20 hK20 => ?_
    refine hF.v (x_assign rfl) fun a hF => ?_
    refine s_end (hK20 _ _ ?_)
    refine wp_ret (then_ret (res_slot hF rfl rfl ⟨_, rfl, ⟨int_of (chk_ten (by omega) hkl hnb (by omega)).symm, fun h => absurd ((chk_ten (by omega) hkl hnb (by omega)).symm.trans h) (by decide)⟩, hK⟩))
   ·
    skip
    refine dk2_seq (w20.heap.size) (w20.heap.size) (ops := regOps Try.f153 6) (N := 17) (by kernel_rfl) wide_orders (by kernel_rfl) fun w24 hw24 B25 hS K21 hK21 => ?_
    have zw24 : w24.heap.size = w20.heap.size := by rw [hw24]
    have sB25 := B25.size
    have hB := bt hB B25
    have hK := hK.below B25
    have mg := mg.old B25
    have m3 := m3.old B25
    have mg_d := mg
    have m3_d := m3
    have hB_d := hB
    have hK_d := hK
    refine hF.d 0 42 (.fieldAddr 24 (.tmp 3) 0) hS (fun W hW => x_fa0 fa24_0 rfl) fun a hF => ?_
    refine hF.d 1 43 (.load 3 (.tmp 42)) hS (fun W hW => x_load rfl (m_load flat3 ((m3_d.k2 hW (by omega)).cell (j := 0) rfl))) fun a hF => ?_
    refine hF.d 2 44 (.binOp .eql 3 (.tmp 43) (.const (.int .i64 2)) 3) hS (fun W hW => eqlT (by omega) rfl rfl) fun a hF => ?_
    refine hF.d 3 45 (.move (.tmp 44)) hS (fun W hW => x_move rfl) fun a hF => ?_
    refine hF.g 4 46 45 3 true (.fieldAddr 24 (.tmp 3) 1) hS rfl (fun W hW => x_fa0 fa24_1 rfl) fun a hF => ?_
    refine hF.g 5 47 45 3 true (.load 3 (.tmp 46)) hS rfl (fun W hW => x_load rfl (m_load flat3 ((m3_d.k2 hW (by omega)).cell (j := 1) rfl))) fun a hF => ?_
    refine hF.g 6 48 45 3 true (.binOp .lss 3 (.tmp 47) (.const (.int .i64 0)) 3) hS rfl (fun W hW => lssF (by omega) rfl rfl) fun a hF => ?_
    refine hF.g 7 49 45 3 true (.move (.tmp 48)) hS rfl (fun W hW => x_move rfl) fun a hF => ?_
    refine hF.g 8 50 49 7 false (.fieldAddr 24 (.tmp 3) 1) hS rfl (fun W hW => x_fa0 fa24_1 rfl) fun a hF => ?_
    refine hF.g 9 51 49 7 false (.load 3 (.tmp 50)) hS rfl (fun W hW => x_load rfl (m_load flat3 ((m3_d.k2 hW (by omega)).cell (j := 1) rfl))) fun a hF => ?_
    refine hF.g 10 52 49 7 false (.move (.tmp 2)) hS rfl (fun W hW => x_move rfl) fun a hF => ?_
    refine hF.g 11 53 49 7 false (.nilCheck (.tmp 52)) hS rfl (fun W hW => x_nil rfl) fun a hF => ?_
    refine hF.g 12 54 49 7 false (.fieldAddr 165 (.tmp 53) 3) hS rfl (fun W hW => x_fa0 fa54_3 rfl) fun a hF => ?_
    refine hF.g 13 55 49 7 false (.load 3 (.tmp 54)) hS rfl (fun W hW => x_load rfl (m_load flat3 ((mg_d.k2 hW (by omega)).cell (j := 3) rfl))) fun a hF => ?_
    refine hF.g 14 56 49 7 false (.binOp .geq 3 (.tmp 51) (.tmp 55) 3) hS rfl (fun W hW => geqT (by omega) rfl rfl) fun a hF => ?_
    refine hF.g 15 57 45 3 true (.pick (.tmp 49) (.const (.bool true)) (.tmp 56)) hS rfl (fun W hW => x_pick (b := false) rfl rfl) fun a hF => ?_
    refine hF.d 16 58 (.pick (.tmp 45) (.tmp 57) (.const (.bool false))) hS (fun W hW => x_pick (b := true) rfl rfl) fun a hF => ?_
    refine d_end (by kernel_rfl) (hK21 _ _ ?_)
    refine wp_if hF rfl ?_
    refine wp_rs fun K22 hK22 => ?_
    refine hF.v (x_assign rfl) fun a hF => ?_
    refine s_end (hK22 _ _ ?_)
    refine wp_ret (then_ret (res_slot hF rfl rfl ⟨_, rfl, ⟨int_of (chk_ten (by omega) hkl hnb (by omega)).symm, fun h => absurd ((chk_ten (by omega) hkl hnb (by omega)).symm.trans h) (by decide)⟩, hK⟩))
   ·
    have hnd := nodeE_iff.2 ⟨hp.1, hp.2, hkl, hnb, (by omega : ¬ (k = 2 ∧ (n < 0 ∨ vars ≤ n)))⟩
    refine dk2_seq (w20.heap.size) (w20.heap.size) (ops := regOps Try.f153 6) (N := 17) (by kernel_rfl) wide_orders (by kernel_rfl) fun w26 hw26 B27 hS K23 hK23 => ?_
    have zw26 : w26.heap.size = w20.heap.size := by rw [hw26]
    have sB27 := B27.size
    have hB := bt hB B27
    have hK := hK.below B27
    have mg := mg.old B27
    have m3 := m3.old B27
    have mg_d := mg
    have m3_d := m3
    have hB_d := hB
    have hK_d := hK
    refine hF.d 0 42 (.fieldAddr 24 (.tmp 3) 0) hS (fun W hW => x_fa0 fa24_0 rfl) fun a hF => ?_
    refine hF.d 1 43 (.load 3 (.tmp 42)) hS (fun W hW => x_load rfl (m_load flat3 ((m3_d.k2 hW (by omega)).cell (j := 0) rfl))) fun a hF => ?_
    refine hF.d 2 44 (.binOp .eql 3 (.tmp 43) (.const (.int .i64 2)) 3) hS (fun W hW => eqlT (by omega) rfl rfl) fun a hF => ?_
    refine hF.d 3 45 (.move (.tmp 44)) hS (fun W hW => x_move rfl) fun a hF => ?_
    refine hF.g 4 46 45 3 true (.fieldAddr 24 (.tmp 3) 1) hS rfl (fun W hW => x_fa0 fa24_1 rfl) fun a hF => ?_
    refine hF.g 5 47 45 3 true (.load 3 (.tmp 46)) hS rfl (fun W hW => x_load rfl (m_load flat3 ((m3_d.k2 hW (by omega)).cell (j := 1) rfl))) fun a hF => ?_
    refine hF.g 6 48 45 3 true (.binOp .lss 3 (.tmp 47) (.const (.int .i64 0)) 3) hS rfl (fun W hW => lssF (by omega) rfl rfl) fun a hF => ?_
    refine hF.g 7 49 45 3 true (.move (.tmp 48)) hS rfl (fun W hW => x_move rfl) fun a hF => ?_
    refine hF.g 8 50 49 7 false (.fieldAddr 24 (.tmp 3) 1) hS rfl (fun W hW => x_fa0 fa24_1 rfl) fun a hF => ?_
    refine hF.g 9 51 49 7 false (.load 3 (.tmp 50)) hS rfl (fun W hW => x_load rfl (m_load flat3 ((m3_d.k2 hW (by omega)).cell (j := 1) rfl))) fun a hF => ?_
    refine hF.g 10 52 49 7 false (.move (.tmp 2)) hS rfl (fun W hW => x_move rfl) fun a hF => ?_
    refine hF.g 11 53 49 7 false (.nilCheck (.tmp 52)) hS rfl (fun W hW => x_nil rfl) fun a hF => ?_
    refine hF.g 12 54 49 7 false (.fieldAddr 165 (.tmp 53) 3) hS rfl (fun W hW => x_fa0 fa54_3 rfl) fun a hF => ?_
    refine hF.g 13 55 49 7 false (.load 3 (.tmp 54)) hS rfl (fun W hW => x_load rfl (m_load flat3 ((mg_d.k2 hW (by omega)).cell (j := 3) rfl))) fun a hF => ?_
    refine hF.g 14 56 49 7 false (.binOp .geq 3 (.tmp 51) (.tmp 55) 3) hS rfl (fun W hW => geqF (by omega) rfl rfl) fun a hF => ?_
    refine hF.g 15 57 45 3 true (.pick (.tmp 49) (.const (.bool true)) (.tmp 56)) hS rfl (fun W hW => x_pick (b := false) rfl rfl) fun a hF => ?_
    refine hF.d 16 58 (.pick (.tmp 45) (.tmp 57) (.const (.bool false))) hS (fun W hW => x_pick (b := true) rfl rfl) fun a hF => ?_
    refine d_end (by kernel_rfl) (hK23 _ _ ?_)
    refine wp_if hF rfl ?_
    refine wp_skip (hK17 _ _ ?_)
    refine wp_seq_k fun K24 hK24 => ?_
    refine wp_rs fun K25 hK25 => ?_
    refine hF.v (x_fa0 fa24_2 rfl) fun a hF => ?_
    refine hF.v (x_load rfl (m_load flat22 (m3.cell (j := 2) rfl))) fun a hF => ?_
    refine hF.v (x_len Try.underlying22 rfl) fun a hF => ?_
    refine hF.v (x_move rfl) fun a hF => ?_
    refine s_end (hK25 _ _ ?_)
    refine wp_block ?_
    refine wp_up xs.length (fun i a w => ∃ ri : Nat, ri ≤ 1000 ∧ chks D top vars (d + 1) (r - 1) ls = chks D top vars (d + 1) ri (ls.drop i) ∧ Blk w g 165 [.int .i64 D, .int .i64 (ri : Int), .int .i64 top, .int .i64 vars] ∧ Below w0.heap.size w0 w ∧ Ktw g g w1 w ∧ Fs 75 a [(62, .int .i64 (i : Int)), (61, .int .i64 (xs.length : Int)), (60, .slice av xs.length cv), (1, .int .i64 d), (2, .pointer (some ⟨g, 0, none⟩))]) ⟨r - 1, by omega, rfl, mg, hB, hK, hF.sub _ rfl⟩ ?_
    clear hF hB hK mg
    rintro i a w hi ⟨ri, hri, hck, mg, hB, hK, hF⟩ K' hK'
    have sB := hB.size
    have hgl := mg.lt
    have sK := hK.size
    have hle := kids_le hkl
    refine wp_rs fun K26 hK26 => ?_
    refine hF.v (x_lss rfl rfl rfl) fun a hF => ?_
    refine s_end (hK26 _ _ ?_)
    refine wp_seq_k fun K27 hK27 => ?_
    refine wp_iff hF rfl (fun hc63 => ?_) (fun hc63 => ?_)
    ·
     obtain ⟨b, off, c, y, hve, hy, hrow⟩ := rd_row3 hR (i := i) (by omega)
     cases hve
     obtain ⟨l, hlk⟩ : ∃ l, ls[i]? = some l := ⟨_, List.getElem?_eq_getElem (by omega)⟩
     have ihy := ih i y l hy hlk
     have h1y := (hk i y l hy hlk).one1
     rw [drop_at hlk] at hck
     refine wp_skip (hK27 _ _ ?_)
     refine wp_seq_k fun K28 hK28 => ?_
     refine wp_block ?_
     refine wp_rs fun K29 hK29 => ?_
     refine hF.v (x_ixa rfl rfl (m_ixsK i Try.underlying22 el22.size rfl (by omega))) fun a hF => ?_
     refine hF.v (x_ldA wide24 (hrow _ hB) rfl rfl) fun a hF => ?_
     refine s_alloc hF (by decide) zero24 fun w28 b8 a eb8 m8 B29 zb8 hF => ?_
     have sB29 := B29.size
     have hB := bt hB B29
     have hK := hK.below B29
     have mg := mg.old B29
     refine s_putW hF rfl rfl (size_wide wide24) m8 rfl (one_lc h1y) fun w30 m8 o31 => ?_
     have so31 := o31.size
     have hB := hB.trans (o31.below (by omega))
     have hK := hK.only o31 (by omega)
     have mg := mg.only o31 (by omega)
     refine s_end (hK29 _ _ ?_)
     refine wp_rs fun K30 hK30 => ?_
     refine hF.v (x_ldW wide24 m8 rfl rfl) fun a hF => ?_
     refine hF.v (x_move rfl) fun a hF => ?_
     refine hF.v (x_add (by omega) (by omega) rfl rfl) fun a hF => ?_
     refine hF.v (x_move rfl) fun a hF => ?_
     refine s_call (R := fun u w' => (u = .int .i64 (chk D top vars (d + 1) ri l).1 ∧ ((chk D top vars (d + 1) ri l).1 = 0 → Blk w' g 165 [.int .i64 D, .int .i64 ((chk D top vars (d + 1) ri l).2 : Int), .int .i64 top, .int .i64 vars])) ∧ Ktw g g w30 w') hF [_, _, _] E153 rfl (by decide) (ihy (d + 1) ri w30 (by omega) (by omega) hri hB mg) ?_
     rintro _ w32 a ⟨⟨rfl, hmg⟩, k33⟩ hF
     have sk33 := k33.size
     have hB := k33.under hB (by omega)
     have hK := hK.trans k33 (by omega)
     refine hF.v (x_assign rfl) fun a hF => ?_
     refine s_end (hK30 _ _ ?_)
     refine wp_rs fun K31 hK31 => ?_
     refine hF.v (x_move rfl) fun a hF => ?_
     refine hF.v (x_neq rfl rfl rfl) fun a hF => ?_
     refine s_end (hK31 _ _ ?_)
     refine wp_iff hF rfl (fun hc72 => ?_) (fun hc72 => ?_)
     ·
      refine wp_rs fun K32 hK32 => ?_
      refine hF.v (x_move rfl) fun a hF => ?_
      refine hF.v (x_assign rfl) fun a hF => ?_
      refine s_end (hK32 _ _ ?_)
      refine wp_ret (inb_ret (then_ret (then_ret (inb_ret (then_ret (res_slot hF rfl rfl ⟨_, rfl, ⟨int_of (by rw [chk_in hnd, hck, chks_out hc72]), fun h => absurd (by rw [chk_in hnd, hck, chks_out hc72] at h; exact h) hc72⟩, hK⟩))))))
     ·
      have hc0 : (chk D top vars (d + 1) ri l).1 = 0 := by omega
      have mg := hmg hc0
      refine wp_skip (hK28 _ _ ?_)
      refine wp_region_lit ?_
      refine hF.v (x_addn (i + 1) (by omega) (by omega) rfl rfl) fun a hF => ?_
      refine hF.v (x_move rfl) fun a hF => ?_
      refine s_end (hK' _ _ (by omega) ⟨(chk D top vars (d + 1) ri l).2, Nat.le_trans (chk_le _ _ _ _ _ _) hri, by rw [hck, chks_in hc0], mg, hB, hK, hF.sub _ rfl⟩)
    ·
     refine wp_exit (hK24 _ _ ?_)
     refine wp_rs fun K33 hK33 => ?_
     refine hF.v (x_assign rfl) fun a hF => ?_
     refine s_end (hK33 _ _ ?_)
     have hnil : ls.drop i = [] := List.drop_of_length_le (by omega)
     rw [hnil] at hck
     refine wp_ret (res_slot hF rfl rfl ⟨_, rfl, ⟨int_of (by rw [chk_in hnd, hck]; rfl), fun _ => by rw [chk_in hnd, hck]; exact mg⟩, hK⟩)
   ·
    have hnd := nodeE_iff.2 ⟨hp.1, hp.2, hkl, hnb, (by omega : ¬ (k = 2 ∧ (n < 0 ∨ vars ≤ n)))⟩
    refine dk2_seq (w20.heap.size) (w20.heap.size) (ops := regOps Try.f153 6) (N := 17) (by kernel_rfl) wide_orders (by kernel_rfl) fun w34 hw34 B35 hS K34 hK34 => ?_
    have zw34 : w34.heap.size = w20.heap.size := by rw [hw34]
    have sB35 := B35.size
    have hB := bt hB B35
    have hK := hK.below B35
    have mg := mg.old B35
    have m3 := m3.old B35
    have mg_d := mg
    have m3_d := m3
    have hB_d := hB
    have hK_d := hK
    refine hF.d 0 42 (.fieldAddr 24 (.tmp 3) 0) hS (fun W hW => x_fa0 fa24_0 rfl) fun a hF => ?_
    refine hF.d 1 43 (.load 3 (.tmp 42)) hS (fun W hW => x_load rfl (m_load flat3 ((m3_d.k2 hW (by omega)).cell (j := 0) rfl))) fun a hF => ?_
    refine hF.d 2 44 (.binOp .eql 3 (.tmp 43) (.const (.int .i64 2)) 3) hS (fun W hW => eqlF (by omega) rfl rfl) fun a hF => ?_
    refine hF.d 3 45 (.move (.tmp 44)) hS (fun W hW => x_move rfl) fun a hF => ?_
    refine d_skip 4 46 45 (j := 3) (want := true) (op := (.fieldAddr 24 (.tmp 3) 1)) hF hS (by kernel_rfl) (by kernel_rfl) rfl (by kernel_rfl) (by decide) fun a hF => ?_
    refine d_skip 5 47 45 (j := 3) (want := true) (op := (.load 3 (.tmp 46))) hF hS (by kernel_rfl) (by kernel_rfl) rfl (by kernel_rfl) (by decide) fun a hF => ?_
    refine d_skip 6 48 45 (j := 3) (want := true) (op := (.binOp .lss 3 (.tmp 47) (.const (.int .i64 0)) 3)) hF hS (by kernel_rfl) (by kernel_rfl) rfl (by kernel_rfl) (by decide) fun a hF => ?_
    refine d_skip 7 49 45 (j := 3) (want := true) (op := (.move (.tmp 48))) hF hS (by kernel_rfl) (by kernel_rfl) rfl (by kernel_rfl) (by decide) fun a hF => ?_
    refine d_skipu 8 50 49 (j := 7) (want := false) (op := (.fieldAddr 24 (.tmp 3) 1)) hF hS (by kernel_rfl) (by kernel_rfl) rfl (by kernel_rfl) (by decide) fun a hF => ?_
    refine d_skipu 9 51 49 (j := 7) (want := false) (op := (.load 3 (.tmp 50))) hF hS (by kernel_rfl) (by kernel_rfl) rfl (by kernel_rfl) (by decide) fun a hF => ?_
    refine d_skipu 10 52 49 (j := 7) (want := false) (op := (.move (.tmp 2))) hF hS (by kernel_rfl) (by kernel_rfl) rfl (by kernel_rfl) (by decide) fun a hF => ?_
    refine d_skipu 11 53 49 (j := 7) (want := false) (op := (.nilCheck (.tmp 52))) hF hS (by kernel_rfl) (by kernel_rfl) rfl (by kernel_rfl) (by decide) fun a hF => ?_
    refine d_skipu 12 54 49 (j := 7) (want := false) (op := (.fieldAddr 165 (.tmp 53) 3)) hF hS (by kernel_rfl) (by kernel_rfl) rfl (by kernel_rfl) (by decide) fun a hF => ?_
    refine d_skipu 13 55 49 (j := 7) (want := false) (op := (.load 3 (.tmp 54))) hF hS (by kernel_rfl) (by kernel_rfl) rfl (by kernel_rfl) (by decide) fun a hF => ?_
    refine d_skipu 14 56 49 (j := 7) (want := false) (op := (.binOp .geq 3 (.tmp 51) (.tmp 55) 3)) hF hS (by kernel_rfl) (by kernel_rfl) rfl (by kernel_rfl) (by decide) fun a hF => ?_
    refine d_skip 15 57 45 (j := 3) (want := true) (op := (.pick (.tmp 49) (.const (.bool true)) (.tmp 56))) hF hS (by kernel_rfl) (by kernel_rfl) rfl (by kernel_rfl) (by decide) fun a hF => ?_
    refine hF.d 16 58 (.pick (.tmp 45) (.tmp 57) (.const (.bool false))) hS (fun W hW => x_pick (b := false) rfl rfl) fun a hF => ?_
    refine d_end (by kernel_rfl) (hK34 _ _ ?_)
    refine wp_if hF rfl ?_
    refine wp_skip (hK17 _ _ ?_)
    refine wp_seq_k fun K35 hK35 => ?_
    refine wp_rs fun K36 hK36 => ?_
    refine hF.v (x_fa0 fa24_2 rfl) fun a hF => ?_
    refine hF.v (x_load rfl (m_load flat22 (m3.cell (j := 2) rfl))) fun a hF => ?_
    refine hF.v (x_len Try.underlying22 rfl) fun a hF => ?_
    refine hF.v (x_move rfl) fun a hF => ?_
    refine s_end (hK36 _ _ ?_)
    refine wp_block ?_
    refine wp_up xs.length (fun i a w => ∃ ri : Nat, ri ≤ 1000 ∧ chks D top vars (d + 1) (r - 1) ls = chks D top vars (d + 1) ri (ls.drop i) ∧ Blk w g 165 [.int .i64 D, .int .i64 (ri : Int), .int .i64 top, .int .i64 vars] ∧ Below w0.heap.size w0 w ∧ Ktw g g w1 w ∧ Fs 75 a [(62, .int .i64 (i : Int)), (61, .int .i64 (xs.length : Int)), (60, .slice av xs.length cv), (1, .int .i64 d), (2, .pointer (some ⟨g, 0, none⟩))]) ⟨r - 1, by omega, rfl, mg, hB, hK, hF.sub _ rfl⟩ ?_
    clear hF hB hK mg
    rintro i a w hi ⟨ri, hri, hck, mg, hB, hK, hF⟩ K' hK'
    have sB := hB.size
    have hgl := mg.lt
    have sK := hK.size
    have hle := kids_le hkl
    refine wp_rs fun K37 hK37 => ?_
    refine hF.v (x_lss rfl rfl rfl) fun a hF => ?_
    refine s_end (hK37 _ _ ?_)
    refine wp_seq_k fun K38 hK38 => ?_
    refine wp_iff hF rfl (fun hc63 => ?_) (fun hc63 => ?_)
    ·
     obtain ⟨b, off, c, y, hve, hy, hrow⟩ := rd_row3 hR (i := i) (by omega)
     cases hve
     obtain ⟨l, hlk⟩ : ∃ l, ls[i]? = some l := ⟨_, List.getElem?_eq_getElem (by omega)⟩
     have ihy := ih i y l hy hlk
     have h1y := (hk i y l hy hlk).one1
     rw [drop_at hlk] at hck
     refine wp_skip (hK38 _ _ ?_)
     refine wp_seq_k fun K39 hK39 => ?_
     refine wp_block ?_
     refine wp_rs fun K40 hK40 => ?_
     refine hF.v (x_ixa rfl rfl (m_ixsK i Try.underlying22 el22.size rfl (by omega))) fun a hF => ?_
     refine hF.v (x_ldA wide24 (hrow _ hB) rfl rfl) fun a hF => ?_
     refine s_alloc hF (by decide) zero24 fun w36 b8 a eb8 m8 B37 zb8 hF => ?_
     have sB37 := B37.size
     have hB := bt hB B37
     have hK := hK.below B37
     have mg := mg.old B37
     refine s_putW hF rfl rfl (size_wide wide24) m8 rfl (one_lc h1y) fun w38 m8 o39 => ?_
     have so39 := o39.size
     have hB := hB.trans (o39.below (by omega))
     have hK := hK.only o39 (by omega)
     have mg := mg.only o39 (by omega)
     refine s_end (hK40 _ _ ?_)
     refine wp_rs fun K41 hK41 => ?_
     refine hF.v (x_ldW wide24 m8 rfl rfl) fun a hF => ?_
     refine hF.v (x_move rfl) fun a hF => ?_
     refine hF.v (x_add (by omega) (by omega) rfl rfl) fun a hF => ?_
     refine hF.v (x_move rfl) fun a hF => ?_
     refine s_call (R := fun u w' => (u = .int .i64 (chk D top vars (d + 1) ri l).1 ∧ ((chk D top vars (d + 1) ri l).1 = 0 → Blk w' g 165 [.int .i64 D, .int .i64 ((chk D top vars (d + 1) ri l).2 : Int), .int .i64 top, .int .i64 vars])) ∧ Ktw g g w38 w') hF [_, _, _] E153 rfl (by decide) (ihy (d + 1) ri w38 (by omega) (by omega) hri hB mg) ?_
     rintro _ w40 a ⟨⟨rfl, hmg⟩, k41⟩ hF
     have sk41 := k41.size
     have hB := k41.under hB (by omega)
     have hK := hK.trans k41 (by omega)
     refine hF.v (x_assign rfl) fun a hF => ?_
     refine s_end (hK41 _ _ ?_)
     refine wp_rs fun K42 hK42 => ?_
     refine hF.v (x_move rfl) fun a hF => ?_
     refine hF.v (x_neq rfl rfl rfl) fun a hF => ?_
     refine s_end (hK42 _ _ ?_)
     refine wp_iff hF rfl (fun hc72 => ?_) (fun hc72 => ?_)
     ·
      refine wp_rs fun K43 hK43 => ?_
      refine hF.v (x_move rfl) fun a hF => ?_
      refine hF.v (x_assign rfl) fun a hF => ?_
      refine s_end (hK43 _ _ ?_)
      refine wp_ret (inb_ret (then_ret (then_ret (inb_ret (then_ret (res_slot hF rfl rfl ⟨_, rfl, ⟨int_of (by rw [chk_in hnd, hck, chks_out hc72]), fun h => absurd (by rw [chk_in hnd, hck, chks_out hc72] at h; exact h) hc72⟩, hK⟩))))))
     ·
      have hc0 : (chk D top vars (d + 1) ri l).1 = 0 := by omega
      have mg := hmg hc0
      refine wp_skip (hK39 _ _ ?_)
      refine wp_region_lit ?_
      refine hF.v (x_addn (i + 1) (by omega) (by omega) rfl rfl) fun a hF => ?_
      refine hF.v (x_move rfl) fun a hF => ?_
      refine s_end (hK' _ _ (by omega) ⟨(chk D top vars (d + 1) ri l).2, Nat.le_trans (chk_le _ _ _ _ _ _) hri, by rw [hck, chks_in hc0], mg, hB, hK, hF.sub _ rfl⟩)
    ·
     refine wp_exit (hK35 _ _ ?_)
     refine wp_rs fun K44 hK44 => ?_
     refine hF.v (x_assign rfl) fun a hF => ?_
     refine s_end (hK44 _ _ ?_)
     have hnil : ls.drop i = [] := List.drop_of_length_le (by omega)
     rw [hnil] at hck
     refine wp_ret (res_slot hF rfl rfl ⟨_, rfl, ⟨int_of (by rw [chk_in hnd, hck]; rfl), fun _ => by rw [chk_in hnd, hck]; exact mg⟩, hK⟩)

set_option maxRecDepth 100000 in
set_option maxHeartbeats 1600000 in
theorem isSound49 (x : C3) (l : Lv) (w0 : World) (hL : RL w0 x l) : Calls Try.prog 136 #[lv x] w0 fun e w' => e = .returned (.bool (decide (sndL l))) ∧ Below w0.heap.size w0 w' := by
 have hB := Below.refl w0.heap.size w0
 have sB := hB.size
 refine calls_fs 8 [(0, lv x)] Try.func136 rfl rfl rfl rfl rfl fun a hF => ?_
 refine wp_rs fun K1 hK1 => ?_
 refine s_box (lc x) hF (by decide) rfl rfl fun w2 b1 a eb1 m1 B3 zb1 hF => ?_
 have sB3 := B3.size
 have hB := bt hB B3
 refine hF.v (x_assign rfl) fun a hF => ?_
 refine s_end (hK1 _ _ ?_)
 refine wp_rs fun K2 hK2 => ?_
 refine hF.v (x_ldW wide24 m1 rfl rfl) fun a hF => ?_
 refine hF.v (x_build (vs := [(0, _), (1, _), (2, _), (3, _)]) rfl (b54_0123 _ _ _ _ _)) fun a hF => ?_
 refine s_box ([.int .i64 256, .int .i64 1000, .int .i64 1099511627776, .int .i64 1001]) hF (by decide) rfl rfl fun w4 b5 a eb5 m5 B5 zb5 hF => ?_
 have sB5 := B5.size
 have hB := bt hB B5
 refine s_call (R := fun u w' => (u = .int .i64 (chk 256 1099511627776 1001 1 1000 l).1 ∧ ((chk 256 1099511627776 1001 1 1000 l).1 = 0 → Blk w' b5 165 [.int .i64 256, .int .i64 ((chk 256 1099511627776 1001 1 1000 l).2 : Int), .int .i64 1099511627776, .int .i64 1001])) ∧ Ktw b5 b5 w4 w') hF [_, _, _] E153 rfl (by decide) (check34 256 1099511627776 1001 (by decide) w0 b5 (by omega) x l hL 1 1000 w4 (by decide) (by decide) (by decide) hB m5) ?_
 rintro _ w6 a ⟨⟨rfl, _⟩, k7⟩ hF
 have sk7 := k7.size
 have hB := k7.under hB (by omega)
 refine hF.v (x_eql (b := decide (sndL l)) rfl rfl rfl) fun a hF => ?_
 refine hF.v (x_assign rfl) fun a hF => ?_
 refine s_end (hK2 _ _ ?_)
 refine wp_ret (res_slot hF rfl rfl ⟨rfl, hB⟩)

set_option maxRecDepth 100000 in
set_option maxHeartbeats 1600000 in
theorem rmay35 (vars : Int) (w0 : World) (g : Nat) (hg : w0.heap.size ≤ g) : ∀ (x : C3) (l : Lv), RL w0 x l → ∀ (d : Int) (r : Nat) (w1 : World), 1 ≤ d → d ≤ 300 → r ≤ 100 → Below w0.heap.size w0 w1 → Blk w1 g 3 [.int .i64 (100 - (r : Int))] →
  Calls Try.prog 68 #[lv x, .int .i64 vars, .int .i64 d, .pointer (some ⟨g, 0, none⟩)] w1 fun e w' => ∃ v, e = .returned v ∧ (v = .int .i64 (chk 32 1048576 vars d r l).1 ∧ ((chk 32 1048576 vars d r l).1 = 0 → Blk w' g 3 [.int .i64 (100 - ((chk 32 1048576 vars d r l).2 : Int))])) ∧ Ktw g g w1 w' := by
 intro x l h
 induction h with
 | @mk k n v xs ls hR hl hk hbd9 ih =>
 intro d r w1 hd1 hd2 hr hB mg
 obtain ⟨av, cv, rfl, _⟩ := hR.form
 have hK := Ktw.refl g g w1
 have sB := hB.size
 have hgl := mg.lt
 refine calls_fs 101 [(0, .agg [.int .i64 k, .int .i64 n, .slice av xs.length cv].toArray), (1, .int .i64 vars), (2, .int .i64 d), (3, .pointer (some ⟨g, 0, none⟩))] Try.func68 rfl rfl rfl rfl rfl fun a hF => ?_
 refine wp_rs fun K1 hK1 => ?_
 refine s_box ([.int .i64 k, .int .i64 n, .slice av xs.length cv]) hF (by decide) rfl rfl fun w2 b4 a eb4 m4 B3 zb4 hF => ?_
 have sB3 := B3.size
 have hB := bt hB B3
 have hK := hK.below B3
 have mg := mg.old B3
 refine hF.v (x_assign rfl) fun a hF => ?_
 refine s_end (hK1 _ _ ?_)
 refine wp_rs fun K2 hK2 => ?_
 refine hF.v (x_move rfl) fun a hF => ?_
 refine hF.v (x_nil rfl) fun a hF => ?_
 refine hF.v (x_load rfl (m_load flat3 (mg.cell (j := 0) rfl))) fun a hF => ?_
 refine hF.v (x_add (by omega) (by omega) rfl rfl) fun a hF => ?_
 refine hF.v (x_nil rfl) fun a hF => ?_
 refine s_put hF rfl rfl flat3 mg (by simp) rfl fun w4 mg o5 => ?_
 have so5 := o5.size
 have hB := hB.trans (o5.below (by omega))
 have hK := hK.only o5 (by omega)
 have m4 := m4.only o5 (by omega)
 refine s_end (hK2 _ _ ?_)
 refine wp_seq_k fun K3 hK3 => ?_
 refine wp_block ?_
 rcases (show 32 < d ∨ (d ≤ 32 ∧ r = 0) ∨ (d ≤ 32 ∧ r ≠ 0) by omega) with hp | hp | hp
 ·
  skip
  refine wp_rs fun K5 hK5 => ?_
  refine hF.v (x_move rfl) fun a hF => ?_
  refine hF.v (gtrT (by omega) rfl rfl) fun a hF => ?_
  refine hF.v (x_move rfl) fun a hF => ?_
  refine s_grdn 20 hF rfl rfl (by decide) fun a hF => ?_
  refine s_grdn 20 hF rfl rfl (by decide) fun a hF => ?_
  refine s_grdn 20 hF rfl rfl (by decide) fun a hF => ?_
  refine s_grdn 20 hF rfl rfl (by decide) fun a hF => ?_
  refine hF.v (x_pick (b := true) rfl rfl) fun a hF => ?_
  refine hF.v (x_assign rfl) fun a hF => ?_
  refine s_end (hK5 _ _ ?_)
  refine wp_if hF rfl ?_
  refine wp_rs fun K6 hK6 => ?_
  refine hF.v (x_assign rfl) fun a hF => ?_
  refine s_end (hK6 _ _ ?_)
  refine wp_ret (inb_ret (then_ret (res_slot hF rfl rfl ⟨_, rfl, ⟨int_of (chk_two (by omega)).symm, fun h => absurd ((chk_two (by omega)).symm.trans h) (by decide)⟩, hK⟩)))
 ·
  skip
  refine wp_rs fun K7 hK7 => ?_
  refine hF.v (x_move rfl) fun a hF => ?_
  refine hF.v (gtrF (by omega) rfl rfl) fun a hF => ?_
  refine hF.v (x_move rfl) fun a hF => ?_
  refine s_grd 20 hF rfl rfl rfl ?_
  refine hF.v (x_move rfl) fun a hF => ?_
  refine s_grd 20 hF rfl rfl rfl ?_
  refine hF.v (x_nil rfl) fun a hF => ?_
  refine s_grd 20 hF rfl rfl rfl ?_
  refine hF.v (x_load rfl (m_load flat3 (mg.cell (j := 0) rfl))) fun a hF => ?_
  refine s_grd 20 hF rfl rfl rfl ?_
  refine hF.v (gtrT (by omega) rfl rfl) fun a hF => ?_
  refine hF.v (x_pick (b := false) rfl rfl) fun a hF => ?_
  refine hF.v (x_assign rfl) fun a hF => ?_
  refine s_end (hK7 _ _ ?_)
  refine wp_if hF rfl ?_
  refine wp_rs fun K8 hK8 => ?_
  refine hF.v (x_assign rfl) fun a hF => ?_
  refine s_end (hK8 _ _ ?_)
  refine wp_ret (inb_ret (then_ret (res_slot hF rfl rfl ⟨_, rfl, ⟨int_of (chk_two (by omega)).symm, fun h => absurd ((chk_two (by omega)).symm.trans h) (by decide)⟩, hK⟩)))
 ·
  skip
  refine wp_rs fun K9 hK9 => ?_
  refine hF.v (x_move rfl) fun a hF => ?_
  refine hF.v (gtrF (by omega) rfl rfl) fun a hF => ?_
  refine hF.v (x_move rfl) fun a hF => ?_
  refine s_grd 20 hF rfl rfl rfl ?_
  refine hF.v (x_move rfl) fun a hF => ?_
  refine s_grd 20 hF rfl rfl rfl ?_
  refine hF.v (x_nil rfl) fun a hF => ?_
  refine s_grd 20 hF rfl rfl rfl ?_
  refine hF.v (x_load rfl (m_load flat3 (mg.cell (j := 0) rfl))) fun a hF => ?_
  refine s_grd 20 hF rfl rfl rfl ?_
  refine hF.v (gtrF (by omega) rfl rfl) fun a hF => ?_
  refine hF.v (x_pick (b := false) rfl rfl) fun a hF => ?_
  refine hF.v (x_assign rfl) fun a hF => ?_
  refine s_end (hK9 _ _ ?_)
  refine wp_if hF rfl ?_
  rcases (show arI k < 0 ∨ (0 ≤ arI k ∧ (xs.length : Int) ≠ arI k) ∨ (0 ≤ arI k ∧ (xs.length : Int) = arI k) by omega) with hkb | hkb | hkb
  ·
   have hq : kidsB k ls.length = false ∨ numB 1048576 k n = false := .inl (arI_no (by omega))
   refine dk2_seq (w4.heap.size) (w4.heap.size) (ops := regOps Try.f68 4) (N := 14) (by kernel_rfl) wide_orders (by kernel_rfl) fun w6 hw6 B7 hS K11 hK11 => ?_
   have zw6 : w6.heap.size = w4.heap.size := by rw [hw6]
   have sB7 := B7.size
   have hB := bt hB B7
   have hK := hK.below B7
   have mg := mg.old B7
   have m4 := m4.old B7
   have mg_d := mg
   have m4_d := m4
   have hB_d := hB
   have hK_d := hK
   refine hF.d 0 27 (.fieldAddr 24 (.tmp 4) 0) hS (fun W hW => x_fa0 fa24_0 rfl) fun a hF => ?_
   refine hF.d 1 28 (.load 3 (.tmp 27)) hS (fun W hW => x_load rfl (m_load flat3 ((m4_d.k2 hW (by omega)).cell (j := 0) rfl))) fun a hF => ?_
   refine d1 2 (some 29) (.call (.mk (.value (.func 113)) #[(.tmp 28)] #[3])) fun ty pos af => ?_
   refine s_callS [.int .i64 k] hF E113 rfl (by decide) (arity58 k _) fun a hF => ?_
   refine s_end ⟨hS, ?_⟩
   refine hF.d 3 30 (.binOp .lss 3 (.tmp 29) (.const (.int .i64 0)) 3) hS (fun W hW => lssT (by omega) rfl rfl) fun a hF => ?_
   refine hF.d 4 31 (.move (.tmp 30)) hS (fun W hW => x_move rfl) fun a hF => ?_
   refine d_skip 5 32 31 (j := 4) (want := false) (op := (.fieldAddr 24 (.tmp 4) 2)) hF hS (by kernel_rfl) (by kernel_rfl) rfl (by kernel_rfl) (by decide) fun a hF => ?_
   refine d_skip 6 33 31 (j := 4) (want := false) (op := (.load 22 (.tmp 32))) hF hS (by kernel_rfl) (by kernel_rfl) rfl (by kernel_rfl) (by decide) fun a hF => ?_
   refine d_skip 7 34 31 (j := 4) (want := false) (op := (.call (.mk (.builtin .len) #[(.tmp 33)] #[22]))) hF hS (by kernel_rfl) (by kernel_rfl) rfl (by kernel_rfl) (by decide) fun a hF => ?_
   refine d_skip 8 35 31 (j := 4) (want := false) (op := (.fieldAddr 24 (.tmp 4) 0)) hF hS (by kernel_rfl) (by kernel_rfl) rfl (by kernel_rfl) (by decide) fun a hF => ?_
   refine d_skip 9 36 31 (j := 4) (want := false) (op := (.load 3 (.tmp 35))) hF hS (by kernel_rfl) (by kernel_rfl) rfl (by kernel_rfl) (by decide) fun a hF => ?_
   refine d_skip 10 37 31 (j := 4) (want := false) (op := (.call (.mk (.value (.func 113)) #[(.tmp 36)] #[3]))) hF hS (by kernel_rfl) (by kernel_rfl) rfl (by kernel_rfl) (by decide) fun a hF => ?_
   refine d_skip 11 38 31 (j := 4) (want := false) (op := (.binOp .neq 3 (.tmp 34) (.tmp 37) 3)) hF hS (by kernel_rfl) (by kernel_rfl) rfl (by kernel_rfl) (by decide) fun a hF => ?_
   refine hF.d 12 39 (.pick (.tmp 31) (.const (.bool true)) (.tmp 38)) hS (fun W hW => x_pick (b := true) rfl rfl) fun a hF => ?_
   refine hF.d 13 26 (.assign (.tmp 39)) hS (fun W hW => x_assign rfl) fun a hF => ?_
   refine d_end (by kernel_rfl) (hK11 _ _ ?_)
   refine wp_if hF rfl ?_
   refine wp_rs fun K12 hK12 => ?_
   refine hF.v (x_assign rfl) fun a hF => ?_
   refine s_end (hK12 _ _ ?_)
   refine wp_ret (inb_ret (then_ret (res_slot hF rfl rfl ⟨_, rfl, ⟨int_of (chk_one (by omega) hq).symm, fun h => absurd ((chk_one (by omega) hq).symm.trans h) (by decide)⟩, hK⟩)))
  ·
   have hq : kidsB k ls.length = false ∨ numB 1048576 k n = false := .inl (arI_no (by omega))
   refine dk2_seq (w4.heap.size) (w4.heap.size) (ops := regOps Try.f68 4) (N := 14) (by kernel_rfl) wide_orders (by kernel_rfl) fun w8 hw8 B9 hS K13 hK13 => ?_
   have zw8 : w8.heap.size = w4.heap.size := by rw [hw8]
   have sB9 := B9.size
   have hB := bt hB B9
   have hK := hK.below B9
   have mg := mg.old B9
   have m4 := m4.old B9
   have mg_d := mg
   have m4_d := m4
   have hB_d := hB
   have hK_d := hK
   refine hF.d 0 27 (.fieldAddr 24 (.tmp 4) 0) hS (fun W hW => x_fa0 fa24_0 rfl) fun a hF => ?_
   refine hF.d 1 28 (.load 3 (.tmp 27)) hS (fun W hW => x_load rfl (m_load flat3 ((m4_d.k2 hW (by omega)).cell (j := 0) rfl))) fun a hF => ?_
   refine d1 2 (some 29) (.call (.mk (.value (.func 113)) #[(.tmp 28)] #[3])) fun ty pos af => ?_
   refine s_callS [.int .i64 k] hF E113 rfl (by decide) (arity58 k _) fun a hF => ?_
   refine s_end ⟨hS, ?_⟩
   refine hF.d 3 30 (.binOp .lss 3 (.tmp 29) (.const (.int .i64 0)) 3) hS (fun W hW => lssF (by omega) rfl rfl) fun a hF => ?_
   refine hF.d 4 31 (.move (.tmp 30)) hS (fun W hW => x_move rfl) fun a hF => ?_
   refine hF.g 5 32 31 4 false (.fieldAddr 24 (.tmp 4) 2) hS rfl (fun W hW => x_fa0 fa24_2 rfl) fun a hF => ?_
   refine hF.g 6 33 31 4 false (.load 22 (.tmp 32)) hS rfl (fun W hW => x_load rfl (m_load flat22 ((m4_d.k2 hW (by omega)).cell (j := 2) rfl))) fun a hF => ?_
   refine hF.g 7 34 31 4 false (.call (.mk (.builtin .len) #[(.tmp 33)] #[22])) hS rfl (fun W hW => x_len Try.underlying22 rfl) fun a hF => ?_
   refine hF.g 8 35 31 4 false (.fieldAddr 24 (.tmp 4) 0) hS rfl (fun W hW => x_fa0 fa24_0 rfl) fun a hF => ?_
   refine hF.g 9 36 31 4 false (.load 3 (.tmp 35)) hS rfl (fun W hW => x_load rfl (m_load flat3 ((m4_d.k2 hW (by omega)).cell (j := 0) rfl))) fun a hF => ?_
   refine d_oneg 10 31 (some 37) (.call (.mk (.value (.func 113)) #[(.tmp 36)] #[3])) (j := 4) (want := false) hF (by kernel_rfl) (by kernel_rfl) (by kernel_rfl) rfl fun ty pos af => ?_
   refine s_callS [.int .i64 k] hF E113 rfl (by decide) (arity58 k _) fun a hF => ?_
   refine s_end ⟨hS, ?_⟩
   refine hF.g 11 38 31 4 false (.binOp .neq 3 (.tmp 34) (.tmp 37) 3) hS rfl (fun W hW => neqT (by omega) rfl rfl) fun a hF => ?_
   refine hF.d 12 39 (.pick (.tmp 31) (.const (.bool true)) (.tmp 38)) hS (fun W hW => x_pick (b := false) rfl rfl) fun a hF => ?_
   refine hF.d 13 26 (.assign (.tmp 39)) hS (fun W hW => x_assign rfl) fun a hF => ?_
   refine d_end (by kernel_rfl) (hK13 _ _ ?_)
   refine wp_if hF rfl ?_
   refine wp_rs fun K14 hK14 => ?_
   refine hF.v (x_assign rfl) fun a hF => ?_
   refine s_end (hK14 _ _ ?_)
   refine wp_ret (inb_ret (then_ret (res_slot hF rfl rfl ⟨_, rfl, ⟨int_of (chk_one (by omega) hq).symm, fun h => absurd ((chk_one (by omega) hq).symm.trans h) (by decide)⟩, hK⟩)))
  ·
   have hkl : kidsB k ls.length = true := arI_kids.2 (by omega)
   refine dk2_seq (w4.heap.size) (w4.heap.size) (ops := regOps Try.f68 4) (N := 14) (by kernel_rfl) wide_orders (by kernel_rfl) fun w10 hw10 B11 hS K15 hK15 => ?_
   have zw10 : w10.heap.size = w4.heap.size := by rw [hw10]
   have sB11 := B11.size
   have hB := bt hB B11
   have hK := hK.below B11
   have mg := mg.old B11
   have m4 := m4.old B11
   have mg_d := mg
   have m4_d := m4
   have hB_d := hB
   have hK_d := hK
   refine hF.d 0 27 (.fieldAddr 24 (.tmp 4) 0) hS (fun W hW => x_fa0 fa24_0 rfl) fun a hF => ?_
   refine hF.d 1 28 (.load 3 (.tmp 27)) hS (fun W hW => x_load rfl (m_load flat3 ((m4_d.k2 hW (by omega)).cell (j := 0) rfl))) fun a hF => ?_
   refine d1 2 (some 29) (.call (.mk (.value (.func 113)) #[(.tmp 28)] #[3])) fun ty pos af => ?_
   refine s_callS [.int .i64 k] hF E113 rfl (by decide) (arity58 k _) fun a hF => ?_
   refine s_end ⟨hS, ?_⟩
   refine hF.d 3 30 (.binOp .lss 3 (.tmp 29) (.const (.int .i64 0)) 3) hS (fun W hW => lssF (by omega) rfl rfl) fun a hF => ?_
   refine hF.d 4 31 (.move (.tmp 30)) hS (fun W hW => x_move rfl) fun a hF => ?_
   refine hF.g 5 32 31 4 false (.fieldAddr 24 (.tmp 4) 2) hS rfl (fun W hW => x_fa0 fa24_2 rfl) fun a hF => ?_
   refine hF.g 6 33 31 4 false (.load 22 (.tmp 32)) hS rfl (fun W hW => x_load rfl (m_load flat22 ((m4_d.k2 hW (by omega)).cell (j := 2) rfl))) fun a hF => ?_
   refine hF.g 7 34 31 4 false (.call (.mk (.builtin .len) #[(.tmp 33)] #[22])) hS rfl (fun W hW => x_len Try.underlying22 rfl) fun a hF => ?_
   refine hF.g 8 35 31 4 false (.fieldAddr 24 (.tmp 4) 0) hS rfl (fun W hW => x_fa0 fa24_0 rfl) fun a hF => ?_
   refine hF.g 9 36 31 4 false (.load 3 (.tmp 35)) hS rfl (fun W hW => x_load rfl (m_load flat3 ((m4_d.k2 hW (by omega)).cell (j := 0) rfl))) fun a hF => ?_
   refine d_oneg 10 31 (some 37) (.call (.mk (.value (.func 113)) #[(.tmp 36)] #[3])) (j := 4) (want := false) hF (by kernel_rfl) (by kernel_rfl) (by kernel_rfl) rfl fun ty pos af => ?_
   refine s_callS [.int .i64 k] hF E113 rfl (by decide) (arity58 k _) fun a hF => ?_
   refine s_end ⟨hS, ?_⟩
   refine hF.g 11 38 31 4 false (.binOp .neq 3 (.tmp 34) (.tmp 37) 3) hS rfl (fun W hW => neqF (by omega) rfl rfl) fun a hF => ?_
   refine hF.d 12 39 (.pick (.tmp 31) (.const (.bool true)) (.tmp 38)) hS (fun W hW => x_pick (b := false) rfl rfl) fun a hF => ?_
   refine hF.d 13 26 (.assign (.tmp 39)) hS (fun W hW => x_assign rfl) fun a hF => ?_
   refine d_end (by kernel_rfl) (hK15 _ _ ?_)
   refine wp_if hF rfl ?_
   rcases (show (k = 1 ∧ n < 0) ∨ (k = 1 ∧ 0 ≤ n ∧ 1048576 < n) ∨ (k = 1 ∧ 0 ≤ n ∧ n ≤ 1048576) ∨ (k = 3 ∧ n < 1) ∨ (k = 3 ∧ 1 ≤ n ∧ 1048576 < n) ∨ (k = 3 ∧ 1 ≤ n ∧ n ≤ 1048576) ∨ (k = 2 ∧ n < 0) ∨ (k = 2 ∧ 0 ≤ n ∧ vars ≤ n) ∨ (k = 2 ∧ 0 ≤ n ∧ n < vars) ∨ (k ≠ 1 ∧ k ≠ 2 ∧ k ≠ 3) by omega) with hv | hv | hv | hv | hv | hv | hv | hv | hv | hv
   ·
    have hq : kidsB k ls.length = false ∨ numB 1048576 k n = false := .inr (numB_no (by omega))
    refine wp_rs fun K17 hK17 => ?_
    refine hF.v (x_fa0 fa24_0 rfl) fun a hF => ?_
    refine hF.v (x_load rfl (m_load flat3 (m4.cell (j := 0) rfl))) fun a hF => ?_
    refine hF.v (eqlT (by omega) rfl rfl) fun a hF => ?_
    refine hF.v (x_move rfl) fun a hF => ?_
    refine s_grd 44 hF rfl rfl rfl ?_
    refine hF.v (x_fa0 fa24_1 rfl) fun a hF => ?_
    refine s_grd 44 hF rfl rfl rfl ?_
    refine hF.v (x_load rfl (m_load flat3 (m4.cell (j := 1) rfl))) fun a hF => ?_
    refine s_grd 44 hF rfl rfl rfl ?_
    refine hF.v (lssT (by omega) rfl rfl) fun a hF => ?_
    refine s_grd 44 hF rfl rfl rfl ?_
    refine hF.v (x_move rfl) fun a hF => ?_
    refine s_grdn 48 hF rfl rfl (by decide) fun a hF => ?_
    refine s_grdn 48 hF rfl rfl (by decide) fun a hF => ?_
    refine s_grdn 48 hF rfl rfl (by decide) fun a hF => ?_
    refine s_grd 44 hF rfl rfl rfl ?_
    refine hF.v (x_pick (b := true) rfl rfl) fun a hF => ?_
    refine hF.v (x_pick (b := true) rfl rfl) fun a hF => ?_
    refine hF.v (x_move rfl) fun a hF => ?_
    refine s_grdn 54 hF rfl rfl (by decide) fun a hF => ?_
    refine s_grdn 54 hF rfl rfl (by decide) fun a hF => ?_
    refine s_grdn 54 hF rfl rfl (by decide) fun a hF => ?_
    refine s_grdn 54 hF rfl rfl (by decide) fun a hF => ?_
    refine s_grdu 58 hF rfl rfl (by decide) fun a hF => ?_
    refine s_grdu 58 hF rfl rfl (by decide) fun a hF => ?_
    refine s_grdu 58 hF rfl rfl (by decide) fun a hF => ?_
    refine s_grdu 58 hF rfl rfl (by decide) fun a hF => ?_
    refine s_grdu 62 hF rfl rfl (by decide) fun a hF => ?_
    refine s_grdu 62 hF rfl rfl (by decide) fun a hF => ?_
    refine s_grdu 62 hF rfl rfl (by decide) fun a hF => ?_
    refine s_grdu 58 hF rfl rfl (by decide) fun a hF => ?_
    refine s_grdn 54 hF rfl rfl (by decide) fun a hF => ?_
    refine hF.v (x_pick (b := true) rfl rfl) fun a hF => ?_
    refine hF.v (x_assign rfl) fun a hF => ?_
    refine s_end (hK17 _ _ ?_)
    refine wp_if hF rfl ?_
    refine wp_rs fun K18 hK18 => ?_
    refine hF.v (x_assign rfl) fun a hF => ?_
    refine s_end (hK18 _ _ ?_)
    refine wp_ret (inb_ret (then_ret (res_slot hF rfl rfl ⟨_, rfl, ⟨int_of (chk_one (by omega) hq).symm, fun h => absurd ((chk_one (by omega) hq).symm.trans h) (by decide)⟩, hK⟩)))
   ·
    have hq : kidsB k ls.length = false ∨ numB 1048576 k n = false := .inr (numB_no (by omega))
    refine wp_rs fun K19 hK19 => ?_
    refine hF.v (x_fa0 fa24_0 rfl) fun a hF => ?_
    refine hF.v (x_load rfl (m_load flat3 (m4.cell (j := 0) rfl))) fun a hF => ?_
    refine hF.v (eqlT (by omega) rfl rfl) fun a hF => ?_
    refine hF.v (x_move rfl) fun a hF => ?_
    refine s_grd 44 hF rfl rfl rfl ?_
    refine hF.v (x_fa0 fa24_1 rfl) fun a hF => ?_
    refine s_grd 44 hF rfl rfl rfl ?_
    refine hF.v (x_load rfl (m_load flat3 (m4.cell (j := 1) rfl))) fun a hF => ?_
    refine s_grd 44 hF rfl rfl rfl ?_
    refine hF.v (lssF (by omega) rfl rfl) fun a hF => ?_
    refine s_grd 44 hF rfl rfl rfl ?_
    refine hF.v (x_move rfl) fun a hF => ?_
    refine s_grd 48 hF rfl rfl rfl ?_
    refine hF.v (x_fa0 fa24_1 rfl) fun a hF => ?_
    refine s_grd 48 hF rfl rfl rfl ?_
    refine hF.v (x_load rfl (m_load flat3 (m4.cell (j := 1) rfl))) fun a hF => ?_
    refine s_grd 48 hF rfl rfl rfl ?_
    refine hF.v (gtrT (by omega) rfl rfl) fun a hF => ?_
    refine s_grd 44 hF rfl rfl rfl ?_
    refine hF.v (x_pick (b := false) rfl rfl) fun a hF => ?_
    refine hF.v (x_pick (b := true) rfl rfl) fun a hF => ?_
    refine hF.v (x_move rfl) fun a hF => ?_
    refine s_grdn 54 hF rfl rfl (by decide) fun a hF => ?_
    refine s_grdn 54 hF rfl rfl (by decide) fun a hF => ?_
    refine s_grdn 54 hF rfl rfl (by decide) fun a hF => ?_
    refine s_grdn 54 hF rfl rfl (by decide) fun a hF => ?_
    refine s_grdu 58 hF rfl rfl (by decide) fun a hF => ?_
    refine s_grdu 58 hF rfl rfl (by decide) fun a hF => ?_
    refine s_grdu 58 hF rfl rfl (by decide) fun a hF => ?_
    refine s_grdu 58 hF rfl rfl (by decide) fun a hF => ?_
    refine s_grdu 62 hF rfl rfl (by decide) fun a hF => ?_
    refine s_grdu 62 hF rfl rfl (by decide) fun a hF => ?_
    refine s_grdu 62 hF rfl rfl (by decide) fun a hF => ?_
    refine s_grdu 58 hF rfl rfl (by decide) fun a hF => ?_
    refine s_grdn 54 hF rfl rfl (by decide) fun a hF => ?_
    refine hF.v (x_pick (b := true) rfl rfl) fun a hF => ?_
    refine hF.v (x_assign rfl) fun a hF => ?_
    refine s_end (hK19 _ _ ?_)
    refine wp_if hF rfl ?_
    refine wp_rs fun K20 hK20 => ?_
    refine hF.v (x_assign rfl) fun a hF => ?_
    refine s_end (hK20 _ _ ?_)
    refine wp_ret (inb_ret (then_ret (res_slot hF rfl rfl ⟨_, rfl, ⟨int_of (chk_one (by omega) hq).symm, fun h => absurd ((chk_one (by omega) hq).symm.trans h) (by decide)⟩, hK⟩)))
   ·
    have hnb : numB 1048576 k n = true := numB_iff.2 (by omega)
    have hnd := nodeE_iff.2 ⟨hp.1, hp.2, hkl, hnb, (by omega : ¬ (k = 2 ∧ (n < 0 ∨ vars ≤ n)))⟩
    refine wp_rs fun K21 hK21 => ?_
    refine hF.v (x_fa0 fa24_0 rfl) fun a hF => ?_
    refine hF.v (x_load rfl (m_load flat3 (m4.cell (j := 0) rfl))) fun a hF => ?_
    refine hF.v (eqlT (by omega) rfl rfl) fun a hF => ?_
    refine hF.v (x_move rfl) fun a hF => ?_
    refine s_grd 44 hF rfl rfl rfl ?_
    refine hF.v (x_fa0 fa24_1 rfl) fun a hF => ?_
    refine s_grd 44 hF rfl rfl rfl ?_
    refine hF.v (x_load rfl (m_load flat3 (m4.cell (j := 1) rfl))) fun a hF => ?_
    refine s_grd 44 hF rfl rfl rfl ?_
    refine hF.v (lssF (by omega) rfl rfl) fun a hF => ?_
    refine s_grd 44 hF rfl rfl rfl ?_
    refine hF.v (x_move rfl) fun a hF => ?_
    refine s_grd 48 hF rfl rfl rfl ?_
    refine hF.v (x_fa0 fa24_1 rfl) fun a hF => ?_
    refine s_grd 48 hF rfl rfl rfl ?_
    refine hF.v (x_load rfl (m_load flat3 (m4.cell (j := 1) rfl))) fun a hF => ?_
    refine s_grd 48 hF rfl rfl rfl ?_
    refine hF.v (gtrF (by omega) rfl rfl) fun a hF => ?_
    refine s_grd 44 hF rfl rfl rfl ?_
    refine hF.v (x_pick (b := false) rfl rfl) fun a hF => ?_
    refine hF.v (x_pick (b := true) rfl rfl) fun a hF => ?_
    refine hF.v (x_move rfl) fun a hF => ?_
    refine s_grd 54 hF rfl rfl rfl ?_
    refine hF.v (x_fa0 fa24_0 rfl) fun a hF => ?_
    refine s_grd 54 hF rfl rfl rfl ?_
    refine hF.v (x_load rfl (m_load flat3 (m4.cell (j := 0) rfl))) fun a hF => ?_
    refine s_grd 54 hF rfl rfl rfl ?_
    refine hF.v (eqlF (by omega) rfl rfl) fun a hF => ?_
    refine s_grd 54 hF rfl rfl rfl ?_
    refine hF.v (x_move rfl) fun a hF => ?_
    refine s_grdn 58 hF rfl rfl (by decide) fun a hF => ?_
    refine s_grdn 58 hF rfl rfl (by decide) fun a hF => ?_
    refine s_grdn 58 hF rfl rfl (by decide) fun a hF => ?_
    refine s_grdn 58 hF rfl rfl (by decide) fun a hF => ?_
    refine s_grdu 62 hF rfl rfl (by decide) fun a hF => ?_
    refine s_grdu 62 hF rfl rfl (by decide) fun a hF => ?_
    refine s_grdu 62 hF rfl rfl (by decide) fun a hF => ?_
    refine s_grdn 58 hF rfl rfl (by decide) fun a hF => ?_
    refine s_grd 54 hF rfl rfl rfl ?_
    refine hF.v (x_pick (b := false) rfl rfl) fun a hF => ?_
    refine hF.v (x_pick (b := false) rfl rfl) fun a hF => ?_
    refine hF.v (x_assign rfl) fun a hF => ?_
    refine s_end (hK21 _ _ ?_)
    refine wp_if hF rfl ?_
    refine wp_rs fun K22 hK22 => ?_
    refine hF.v (x_fa0 fa24_0 rfl) fun a hF => ?_
    refine hF.v (x_load rfl (m_load flat3 (m4.cell (j := 0) rfl))) fun a hF => ?_
    refine hF.v (eqlF (by omega) rfl rfl) fun a hF => ?_
    refine hF.v (x_move rfl) fun a hF => ?_
    refine s_grdn 73 hF rfl rfl (by decide) fun a hF => ?_
    refine s_grdn 73 hF rfl rfl (by decide) fun a hF => ?_
    refine s_grdn 73 hF rfl rfl (by decide) fun a hF => ?_
    refine s_grdn 73 hF rfl rfl (by decide) fun a hF => ?_
    refine s_grdu 77 hF rfl rfl (by decide) fun a hF => ?_
    refine s_grdu 77 hF rfl rfl (by decide) fun a hF => ?_
    refine s_grdu 77 hF rfl rfl (by decide) fun a hF => ?_
    refine s_grdu 77 hF rfl rfl (by decide) fun a hF => ?_
    refine s_grdn 73 hF rfl rfl (by decide) fun a hF => ?_
    refine hF.v (x_pick (b := false) rfl rfl) fun a hF => ?_
    refine hF.v (x_assign rfl) fun a hF => ?_
    refine s_end (hK22 _ _ ?_)
    refine wp_if hF rfl ?_
    refine wp_skip (hK3 _ _ ?_)
    refine wp_seq_k fun K23 hK23 => ?_
    refine wp_rs fun K24 hK24 => ?_
    refine hF.v (x_fa0 fa24_2 rfl) fun a hF => ?_
    refine hF.v (x_load rfl (m_load flat22 (m4.cell (j := 2) rfl))) fun a hF => ?_
    refine hF.v (x_len Try.underlying22 rfl) fun a hF => ?_
    refine hF.v (x_move rfl) fun a hF => ?_
    refine s_end (hK24 _ _ ?_)
    refine wp_block ?_
    have mg : Blk w10 g 3 [.int .i64 (100 - ((r - 1 : Nat) : Int))] := by rw [show (100 : Int) - ((r - 1 : Nat) : Int) = 100 - (r : Int) + 1 by omega]; exact mg
    refine wp_up xs.length (fun i a w => ∃ ri : Nat, ri ≤ 100 ∧ chks 32 1048576 vars (d + 1) (r - 1) ls = chks 32 1048576 vars (d + 1) ri (ls.drop i) ∧ Blk w g 3 [.int .i64 (100 - (ri : Int))] ∧ Below w0.heap.size w0 w ∧ Ktw g g w1 w ∧ Fs 101 a [(87, .int .i64 (i : Int)), (86, .int .i64 (xs.length : Int)), (85, .slice av xs.length cv), (1, .int .i64 vars), (2, .int .i64 d), (3, .pointer (some ⟨g, 0, none⟩))]) ⟨r - 1, by omega, rfl, mg, hB, hK, hF.sub _ rfl⟩ ?_
    clear hF hB hK mg
    rintro i a w hi ⟨ri, hri, hck, mg, hB, hK, hF⟩ K' hK'
    have sB := hB.size
    have hgl := mg.lt
    have sK := hK.size
    have hle := kids_le hkl
    refine wp_rs fun K25 hK25 => ?_
    refine hF.v (x_lss rfl rfl rfl) fun a hF => ?_
    refine s_end (hK25 _ _ ?_)
    refine wp_seq_k fun K26 hK26 => ?_
    refine wp_iff hF rfl (fun hc88 => ?_) (fun hc88 => ?_)
    ·
     obtain ⟨b, off, c, y, hve, hy, hrow⟩ := rd_row3 hR (i := i) (by omega)
     cases hve
     obtain ⟨l, hlk⟩ : ∃ l, ls[i]? = some l := ⟨_, List.getElem?_eq_getElem (by omega)⟩
     have ihy := ih i y l hy hlk
     have h1y := (hk i y l hy hlk).one1
     rw [drop_at hlk] at hck
     refine wp_skip (hK26 _ _ ?_)
     refine wp_seq_k fun K27 hK27 => ?_
     refine wp_block ?_
     refine wp_rs fun K28 hK28 => ?_
     refine hF.v (x_ixa rfl rfl (m_ixsK i Try.underlying22 el22.size rfl (by omega))) fun a hF => ?_
     refine hF.v (x_ldA wide24 (hrow _ hB) rfl rfl) fun a hF => ?_
     refine s_alloc hF (by decide) zero24 fun w12 b10 a eb10 m10 B13 zb10 hF => ?_
     have sB13 := B13.size
     have hB := bt hB B13
     have hK := hK.below B13
     have mg := mg.old B13
     refine s_putW hF rfl rfl (size_wide wide24) m10 rfl (one_lc h1y) fun w14 m10 o15 => ?_
     have so15 := o15.size
     have hB := hB.trans (o15.below (by omega))
     have hK := hK.only o15 (by omega)
     have mg := mg.only o15 (by omega)
     refine s_end (hK28 _ _ ?_)
     refine wp_rs fun K29 hK29 => ?_
     refine hF.v (x_ldW wide24 m10 rfl rfl) fun a hF => ?_
     refine hF.v (x_move rfl) fun a hF => ?_
     refine hF.v (x_move rfl) fun a hF => ?_
     refine hF.v (x_add (by omega) (by omega) rfl rfl) fun a hF => ?_
     refine hF.v (x_move rfl) fun a hF => ?_
     refine s_call (R := fun u w' => (u = .int .i64 (chk 32 1048576 vars (d + 1) ri l).1 ∧ ((chk 32 1048576 vars (d + 1) ri l).1 = 0 → Blk w' g 3 [.int .i64 (100 - ((chk 32 1048576 vars (d + 1) ri l).2 : Int))])) ∧ Ktw g g w14 w') hF [_, _, _, _] E68 rfl (by decide) (ihy (d + 1) ri w14 (by omega) (by omega) hri hB mg) ?_
     rintro _ w16 a ⟨⟨rfl, hmg⟩, k17⟩ hF
     have sk17 := k17.size
     have hB := k17.under hB (by omega)
     have hK := hK.trans k17 (by omega)
     refine hF.v (x_assign rfl) fun a hF => ?_
     refine s_end (hK29 _ _ ?_)
     refine wp_rs fun K30 hK30 => ?_
     refine hF.v (x_move rfl) fun a hF => ?_
     refine hF.v (x_neq rfl rfl rfl) fun a hF => ?_
     refine s_end (hK30 _ _ ?_)
     refine wp_iff hF rfl (fun hc98 => ?_) (fun hc98 => ?_)
     ·
      refine wp_rs fun K31 hK31 => ?_
      refine hF.v (x_move rfl) fun a hF => ?_
      refine hF.v (x_assign rfl) fun a hF => ?_
      refine s_end (hK31 _ _ ?_)
      refine wp_ret (inb_ret (then_ret (then_ret (inb_ret (then_ret (res_slot hF rfl rfl ⟨_, rfl, ⟨int_of (by rw [chk_in hnd, hck, chks_out hc98]), fun h => absurd (by rw [chk_in hnd, hck, chks_out hc98] at h; exact h) hc98⟩, hK⟩))))))
     ·
      have hc0 : (chk 32 1048576 vars (d + 1) ri l).1 = 0 := by omega
      have mg := hmg hc0
      refine wp_skip (hK27 _ _ ?_)
      refine wp_region_lit ?_
      refine hF.v (x_addn (i + 1) (by omega) (by omega) rfl rfl) fun a hF => ?_
      refine hF.v (x_move rfl) fun a hF => ?_
      refine s_end (hK' _ _ (by omega) ⟨(chk 32 1048576 vars (d + 1) ri l).2, Nat.le_trans (chk_le _ _ _ _ _ _) hri, by rw [hck, chks_in hc0], mg, hB, hK, hF.sub _ rfl⟩)
    ·
     refine wp_exit (hK23 _ _ ?_)
     refine wp_rs fun K32 hK32 => ?_
     refine hF.v (x_assign rfl) fun a hF => ?_
     refine s_end (hK32 _ _ ?_)
     have hnil : ls.drop i = [] := List.drop_of_length_le (by omega)
     rw [hnil] at hck
     refine wp_ret (res_slot hF rfl rfl ⟨_, rfl, ⟨int_of (by rw [chk_in hnd, hck]; rfl), fun _ => by rw [chk_in hnd, hck]; exact mg⟩, hK⟩)
   ·
    have hq : kidsB k ls.length = false ∨ numB 1048576 k n = false := .inr (numB_no (by omega))
    refine wp_rs fun K33 hK33 => ?_
    refine hF.v (x_fa0 fa24_0 rfl) fun a hF => ?_
    refine hF.v (x_load rfl (m_load flat3 (m4.cell (j := 0) rfl))) fun a hF => ?_
    refine hF.v (eqlF (by omega) rfl rfl) fun a hF => ?_
    refine hF.v (x_move rfl) fun a hF => ?_
    refine s_grdn 44 hF rfl rfl (by decide) fun a hF => ?_
    refine s_grdn 44 hF rfl rfl (by decide) fun a hF => ?_
    refine s_grdn 44 hF rfl rfl (by decide) fun a hF => ?_
    refine s_grdn 44 hF rfl rfl (by decide) fun a hF => ?_
    refine s_grdu 48 hF rfl rfl (by decide) fun a hF => ?_
    refine s_grdu 48 hF rfl rfl (by decide) fun a hF => ?_
    refine s_grdu 48 hF rfl rfl (by decide) fun a hF => ?_
    refine s_grdn 44 hF rfl rfl (by decide) fun a hF => ?_
    refine hF.v (x_pick (b := false) rfl rfl) fun a hF => ?_
    refine hF.v (x_move rfl) fun a hF => ?_
    refine s_grd 54 hF rfl rfl rfl ?_
    refine hF.v (x_fa0 fa24_0 rfl) fun a hF => ?_
    refine s_grd 54 hF rfl rfl rfl ?_
    refine hF.v (x_load rfl (m_load flat3 (m4.cell (j := 0) rfl))) fun a hF => ?_
    refine s_grd 54 hF rfl rfl rfl ?_
    refine hF.v (eqlT (by omega) rfl rfl) fun a hF => ?_
    refine s_grd 54 hF rfl rfl rfl ?_
    refine hF.v (x_move rfl) fun a hF => ?_
    refine s_grd 58 hF rfl rfl rfl ?_
    refine hF.v (x_fa0 fa24_1 rfl) fun a hF => ?_
    refine s_grd 58 hF rfl rfl rfl ?_
    refine hF.v (x_load rfl (m_load flat3 (m4.cell (j := 1) rfl))) fun a hF => ?_
    refine s_grd 58 hF rfl rfl rfl ?_
    refine hF.v (lssT (by omega) rfl rfl) fun a hF => ?_
    refine s_grd 58 hF rfl rfl rfl ?_
    refine hF.v (x_move rfl) fun a hF => ?_
    refine s_grdn 62 hF rfl rfl (by decide) fun a hF => ?_
    refine s_grdn 62 hF rfl rfl (by decide) fun a hF => ?_
    refine s_grdn 62 hF rfl rfl (by decide) fun a hF => ?_
    refine s_grd 58 hF rfl rfl rfl ?_
    refine hF.v (x_pick (b := true) rfl rfl) fun a hF => ?_
    refine s_grd 54 hF rfl rfl rfl ?_
    refine hF.v (x_pick (b := true) rfl rfl) fun a hF => ?_
    refine hF.v (x_pick (b := false) rfl rfl) fun a hF => ?_
    refine hF.v (x_assign rfl) fun a hF => ?_
    refine s_end (hK33 _ _ ?_)
    refine wp_if hF rfl ?_
    refine wp_rs fun K34 hK34 => ?_
    refine hF.v (x_assign rfl) fun a hF => ?_
    refine s_end (hK34 _ _ ?_)
    refine wp_ret (inb_ret (then_ret (res_slot hF rfl rfl ⟨_, rfl, ⟨int_of (chk_one (by omega) hq).symm, fun h => absurd ((chk_one (by omega) hq).symm.trans h) (by decide)⟩, hK⟩)))
   ·
    have hq : kidsB k ls.length = false ∨ numB 1048576 k n = false := .inr (numB_no (by omega))
    refine wp_rs fun K35 hK35 => ?_
    refine hF.v (x_fa0 fa24_0 rfl) fun a hF => ?_
    refine hF.v (x_load rfl (m_load flat3 (m4.cell (j := 0) rfl))) fun a hF => ?_
    refine hF.v (eqlF (by omega) rfl rfl) fun a hF => ?_
    refine hF.v (x_move rfl) fun a hF => ?_
    refine s_grdn 44 hF rfl rfl (by decide) fun a hF => ?_
    refine s_grdn 44 hF rfl rfl (by decide) fun a hF => ?_
    refine s_grdn 44 hF rfl rfl (by decide) fun a hF => ?_
    refine s_grdn 44 hF rfl rfl (by decide) fun a hF => ?_
    refine s_grdu 48 hF rfl rfl (by decide) fun a hF => ?_
    refine s_grdu 48 hF rfl rfl (by decide) fun a hF => ?_
    refine s_grdu 48 hF rfl rfl (by decide) fun a hF => ?_
    refine s_grdn 44 hF rfl rfl (by decide) fun a hF => ?_
    refine hF.v (x_pick (b := false) rfl rfl) fun a hF => ?_
    refine hF.v (x_move rfl) fun a hF => ?_
    refine s_grd 54 hF rfl rfl rfl ?_
    refine hF.v (x_fa0 fa24_0 rfl) fun a hF => ?_
    refine s_grd 54 hF rfl rfl rfl ?_
    refine hF.v (x_load rfl (m_load flat3 (m4.cell (j := 0) rfl))) fun a hF => ?_
    refine s_grd 54 hF rfl rfl rfl ?_
    refine hF.v (eqlT (by omega) rfl rfl) fun a hF => ?_
    refine s_grd 54 hF rfl rfl rfl ?_
    refine hF.v (x_move rfl) fun a hF => ?_
    refine s_grd 58 hF rfl rfl rfl ?_
    refine hF.v (x_fa0 fa24_1 rfl) fun a hF => ?_
    refine s_grd 58 hF rfl rfl rfl ?_
    refine hF.v (x_load rfl (m_load flat3 (m4.cell (j := 1) rfl))) fun a hF => ?_
    refine s_grd 58 hF rfl rfl rfl ?_
    refine hF.v (lssF (by omega) rfl rfl) fun a hF => ?_
    refine s_grd 58 hF rfl rfl rfl ?_
    refine hF.v (x_move rfl) fun a hF => ?_
    refine s_grd 62 hF rfl rfl rfl ?_
    refine hF.v (x_fa0 fa24_1 rfl) fun a hF => ?_
    refine s_grd 62 hF rfl rfl rfl ?_
    refine hF.v (x_load rfl (m_load flat3 (m4.cell (j := 1) rfl))) fun a hF => ?_
    refine s_grd 62 hF rfl rfl rfl ?_
    refine hF.v (gtrT (by omega) rfl rfl) fun a hF => ?_
    refine s_grd 58 hF rfl rfl rfl ?_
    refine hF.v (x_pick (b := false) rfl rfl) fun a hF => ?_
    refine s_grd 54 hF rfl rfl rfl ?_
    refine hF.v (x_pick (b := true) rfl rfl) fun a hF => ?_
    refine hF.v (x_pick (b := false) rfl rfl) fun a hF => ?_
    refine hF.v (x_assign rfl) fun a hF => ?_
    refine s_end (hK35 _ _ ?_)
    refine wp_if hF rfl ?_
    refine wp_rs fun K36 hK36 => ?_
    refine hF.v (x_assign rfl) fun a hF => ?_
    refine s_end (hK36 _ _ ?_)
    refine wp_ret (inb_ret (then_ret (res_slot hF rfl rfl ⟨_, rfl, ⟨int_of (chk_one (by omega) hq).symm, fun h => absurd ((chk_one (by omega) hq).symm.trans h) (by decide)⟩, hK⟩)))
   ·
    have hnb : numB 1048576 k n = true := numB_iff.2 (by omega)
    have hnd := nodeE_iff.2 ⟨hp.1, hp.2, hkl, hnb, (by omega : ¬ (k = 2 ∧ (n < 0 ∨ vars ≤ n)))⟩
    refine wp_rs fun K37 hK37 => ?_
    refine hF.v (x_fa0 fa24_0 rfl) fun a hF => ?_
    refine hF.v (x_load rfl (m_load flat3 (m4.cell (j := 0) rfl))) fun a hF => ?_
    refine hF.v (eqlF (by omega) rfl rfl) fun a hF => ?_
    refine hF.v (x_move rfl) fun a hF => ?_
    refine s_grdn 44 hF rfl rfl (by decide) fun a hF => ?_
    refine s_grdn 44 hF rfl rfl (by decide) fun a hF => ?_
    refine s_grdn 44 hF rfl rfl (by decide) fun a hF => ?_
    refine s_grdn 44 hF rfl rfl (by decide) fun a hF => ?_
    refine s_grdu 48 hF rfl rfl (by decide) fun a hF => ?_
    refine s_grdu 48 hF rfl rfl (by decide) fun a hF => ?_
    refine s_grdu 48 hF rfl rfl (by decide) fun a hF => ?_
    refine s_grdn 44 hF rfl rfl (by decide) fun a hF => ?_
    refine hF.v (x_pick (b := false) rfl rfl) fun a hF => ?_
    refine hF.v (x_move rfl) fun a hF => ?_
    refine s_grd 54 hF rfl rfl rfl ?_
    refine hF.v (x_fa0 fa24_0 rfl) fun a hF => ?_
    refine s_grd 54 hF rfl rfl rfl ?_
    refine hF.v (x_load rfl (m_load flat3 (m4.cell (j := 0) rfl))) fun a hF => ?_
    refine s_grd 54 hF rfl rfl rfl ?_
    refine hF.v (eqlT (by omega) rfl rfl) fun a hF => ?_
    refine s_grd 54 hF rfl rfl rfl ?_
    refine hF.v (x_move rfl) fun a hF => ?_
    refine s_grd 58 hF rfl rfl rfl ?_
    refine hF.v (x_fa0 fa24_1 rfl) fun a hF => ?_
    refine s_grd 58 hF rfl rfl rfl ?_
    refine hF.v (x_load rfl (m_load flat3 (m4.cell (j := 1) rfl))) fun a hF => ?_
    refine s_grd 58 hF rfl rfl rfl ?_
    refine hF.v (lssF (by omega) rfl rfl) fun a hF => ?_
    refine s_grd 58 hF rfl rfl rfl ?_
    refine hF.v (x_move rfl) fun a hF => ?_
    refine s_grd 62 hF rfl rfl rfl ?_
    refine hF.v (x_fa0 fa24_1 rfl) fun a hF => ?_
    refine s_grd 62 hF rfl rfl rfl ?_
    refine hF.v (x_load rfl (m_load flat3 (m4.cell (j := 1) rfl))) fun a hF => ?_
    refine s_grd 62 hF rfl rfl rfl ?_
    refine hF.v (gtrF (by omega) rfl rfl) fun a hF => ?_
    refine s_grd 58 hF rfl rfl rfl ?_
    refine hF.v (x_pick (b := false) rfl rfl) fun a hF => ?_
    refine s_grd 54 hF rfl rfl rfl ?_
    refine hF.v (x_pick (b := true) rfl rfl) fun a hF => ?_
    refine hF.v (x_pick (b := false) rfl rfl) fun a hF => ?_
    refine hF.v (x_assign rfl) fun a hF => ?_
    refine s_end (hK37 _ _ ?_)
    refine wp_if hF rfl ?_
    refine wp_rs fun K38 hK38 => ?_
    refine hF.v (x_fa0 fa24_0 rfl) fun a hF => ?_
    refine hF.v (x_load rfl (m_load flat3 (m4.cell (j := 0) rfl))) fun a hF => ?_
    refine hF.v (eqlF (by omega) rfl rfl) fun a hF => ?_
    refine hF.v (x_move rfl) fun a hF => ?_
    refine s_grdn 73 hF rfl rfl (by decide) fun a hF => ?_
    refine s_grdn 73 hF rfl rfl (by decide) fun a hF => ?_
    refine s_grdn 73 hF rfl rfl (by decide) fun a hF => ?_
    refine s_grdn 73 hF rfl rfl (by decide) fun a hF => ?_
    refine s_grdu 77 hF rfl rfl (by decide) fun a hF => ?_
    refine s_grdu 77 hF rfl rfl (by decide) fun a hF => ?_
    refine s_grdu 77 hF rfl rfl (by decide) fun a hF => ?_
    refine s_grdu 77 hF rfl rfl (by decide) fun a hF => ?_
    refine s_grdn 73 hF rfl rfl (by decide) fun a hF => ?_
    refine hF.v (x_pick (b := false) rfl rfl) fun a hF => ?_
    refine hF.v (x_assign rfl) fun a hF => ?_
    refine s_end (hK38 _ _ ?_)
    refine wp_if hF rfl ?_
    refine wp_skip (hK3 _ _ ?_)
    refine wp_seq_k fun K39 hK39 => ?_
    refine wp_rs fun K40 hK40 => ?_
    refine hF.v (x_fa0 fa24_2 rfl) fun a hF => ?_
    refine hF.v (x_load rfl (m_load flat22 (m4.cell (j := 2) rfl))) fun a hF => ?_
    refine hF.v (x_len Try.underlying22 rfl) fun a hF => ?_
    refine hF.v (x_move rfl) fun a hF => ?_
    refine s_end (hK40 _ _ ?_)
    refine wp_block ?_
    have mg : Blk w10 g 3 [.int .i64 (100 - ((r - 1 : Nat) : Int))] := by rw [show (100 : Int) - ((r - 1 : Nat) : Int) = 100 - (r : Int) + 1 by omega]; exact mg
    refine wp_up xs.length (fun i a w => ∃ ri : Nat, ri ≤ 100 ∧ chks 32 1048576 vars (d + 1) (r - 1) ls = chks 32 1048576 vars (d + 1) ri (ls.drop i) ∧ Blk w g 3 [.int .i64 (100 - (ri : Int))] ∧ Below w0.heap.size w0 w ∧ Ktw g g w1 w ∧ Fs 101 a [(87, .int .i64 (i : Int)), (86, .int .i64 (xs.length : Int)), (85, .slice av xs.length cv), (1, .int .i64 vars), (2, .int .i64 d), (3, .pointer (some ⟨g, 0, none⟩))]) ⟨r - 1, by omega, rfl, mg, hB, hK, hF.sub _ rfl⟩ ?_
    clear hF hB hK mg
    rintro i a w hi ⟨ri, hri, hck, mg, hB, hK, hF⟩ K' hK'
    have sB := hB.size
    have hgl := mg.lt
    have sK := hK.size
    have hle := kids_le hkl
    refine wp_rs fun K41 hK41 => ?_
    refine hF.v (x_lss rfl rfl rfl) fun a hF => ?_
    refine s_end (hK41 _ _ ?_)
    refine wp_seq_k fun K42 hK42 => ?_
    refine wp_iff hF rfl (fun hc88 => ?_) (fun hc88 => ?_)
    ·
     obtain ⟨b, off, c, y, hve, hy, hrow⟩ := rd_row3 hR (i := i) (by omega)
     cases hve
     obtain ⟨l, hlk⟩ : ∃ l, ls[i]? = some l := ⟨_, List.getElem?_eq_getElem (by omega)⟩
     have ihy := ih i y l hy hlk
     have h1y := (hk i y l hy hlk).one1
     rw [drop_at hlk] at hck
     refine wp_skip (hK42 _ _ ?_)
     refine wp_seq_k fun K43 hK43 => ?_
     refine wp_block ?_
     refine wp_rs fun K44 hK44 => ?_
     refine hF.v (x_ixa rfl rfl (m_ixsK i Try.underlying22 el22.size rfl (by omega))) fun a hF => ?_
     refine hF.v (x_ldA wide24 (hrow _ hB) rfl rfl) fun a hF => ?_
     refine s_alloc hF (by decide) zero24 fun w18 b10 a eb10 m10 B19 zb10 hF => ?_
     have sB19 := B19.size
     have hB := bt hB B19
     have hK := hK.below B19
     have mg := mg.old B19
     refine s_putW hF rfl rfl (size_wide wide24) m10 rfl (one_lc h1y) fun w20 m10 o21 => ?_
     have so21 := o21.size
     have hB := hB.trans (o21.below (by omega))
     have hK := hK.only o21 (by omega)
     have mg := mg.only o21 (by omega)
     refine s_end (hK44 _ _ ?_)
     refine wp_rs fun K45 hK45 => ?_
     refine hF.v (x_ldW wide24 m10 rfl rfl) fun a hF => ?_
     refine hF.v (x_move rfl) fun a hF => ?_
     refine hF.v (x_move rfl) fun a hF => ?_
     refine hF.v (x_add (by omega) (by omega) rfl rfl) fun a hF => ?_
     refine hF.v (x_move rfl) fun a hF => ?_
     refine s_call (R := fun u w' => (u = .int .i64 (chk 32 1048576 vars (d + 1) ri l).1 ∧ ((chk 32 1048576 vars (d + 1) ri l).1 = 0 → Blk w' g 3 [.int .i64 (100 - ((chk 32 1048576 vars (d + 1) ri l).2 : Int))])) ∧ Ktw g g w20 w') hF [_, _, _, _] E68 rfl (by decide) (ihy (d + 1) ri w20 (by omega) (by omega) hri hB mg) ?_
     rintro _ w22 a ⟨⟨rfl, hmg⟩, k23⟩ hF
     have sk23 := k23.size
     have hB := k23.under hB (by omega)
     have hK := hK.trans k23 (by omega)
     refine hF.v (x_assign rfl) fun a hF => ?_
     refine s_end (hK45 _ _ ?_)
     refine wp_rs fun K46 hK46 => ?_
     refine hF.v (x_move rfl) fun a hF => ?_
     refine hF.v (x_neq rfl rfl rfl) fun a hF => ?_
     refine s_end (hK46 _ _ ?_)
     refine wp_iff hF rfl (fun hc98 => ?_) (fun hc98 => ?_)
     ·
      refine wp_rs fun K47 hK47 => ?_
      refine hF.v (x_move rfl) fun a hF => ?_
      refine hF.v (x_assign rfl) fun a hF => ?_
      refine s_end (hK47 _ _ ?_)
      refine wp_ret (inb_ret (then_ret (then_ret (inb_ret (then_ret (res_slot hF rfl rfl ⟨_, rfl, ⟨int_of (by rw [chk_in hnd, hck, chks_out hc98]), fun h => absurd (by rw [chk_in hnd, hck, chks_out hc98] at h; exact h) hc98⟩, hK⟩))))))
     ·
      have hc0 : (chk 32 1048576 vars (d + 1) ri l).1 = 0 := by omega
      have mg := hmg hc0
      refine wp_skip (hK43 _ _ ?_)
      refine wp_region_lit ?_
      refine hF.v (x_addn (i + 1) (by omega) (by omega) rfl rfl) fun a hF => ?_
      refine hF.v (x_move rfl) fun a hF => ?_
      refine s_end (hK' _ _ (by omega) ⟨(chk 32 1048576 vars (d + 1) ri l).2, Nat.le_trans (chk_le _ _ _ _ _ _) hri, by rw [hck, chks_in hc0], mg, hB, hK, hF.sub _ rfl⟩)
    ·
     refine wp_exit (hK39 _ _ ?_)
     refine wp_rs fun K48 hK48 => ?_
     refine hF.v (x_assign rfl) fun a hF => ?_
     refine s_end (hK48 _ _ ?_)
     have hnil : ls.drop i = [] := List.drop_of_length_le (by omega)
     rw [hnil] at hck
     refine wp_ret (res_slot hF rfl rfl ⟨_, rfl, ⟨int_of (by rw [chk_in hnd, hck]; rfl), fun _ => by rw [chk_in hnd, hck]; exact mg⟩, hK⟩)
   ·
    have hnb : numB 1048576 k n = true := numB_iff.2 (by omega)
    refine wp_rs fun K49 hK49 => ?_
    refine hF.v (x_fa0 fa24_0 rfl) fun a hF => ?_
    refine hF.v (x_load rfl (m_load flat3 (m4.cell (j := 0) rfl))) fun a hF => ?_
    refine hF.v (eqlF (by omega) rfl rfl) fun a hF => ?_
    refine hF.v (x_move rfl) fun a hF => ?_
    refine s_grdn 44 hF rfl rfl (by decide) fun a hF => ?_
    refine s_grdn 44 hF rfl rfl (by decide) fun a hF => ?_
    refine s_grdn 44 hF rfl rfl (by decide) fun a hF => ?_
    refine s_grdn 44 hF rfl rfl (by decide) fun a hF => ?_
    refine s_grdu 48 hF rfl rfl (by decide) fun a hF => ?_
    refine s_grdu 48 hF rfl rfl (by decide) fun a hF => ?_
    refine s_grdu 48 hF rfl rfl (by decide) fun a hF => ?_
    refine s_grdn 44 hF rfl rfl (by decide) fun a hF => ?_
    refine hF.v (x_pick (b := false) rfl rfl) fun a hF => ?_
    refine hF.v (x_move rfl) fun a hF => ?_
    refine s_grd 54 hF rfl rfl rfl ?_
    refine hF.v (x_fa0 fa24_0 rfl) fun a hF => ?_
    refine s_grd 54 hF rfl rfl rfl ?_
    refine hF.v (x_load rfl (m_load flat3 (m4.cell (j := 0) rfl))) fun a hF => ?_
    refine s_grd 54 hF rfl rfl rfl ?_
    refine hF.v (eqlF (by omega) rfl rfl) fun a hF => ?_
    refine s_grd 54 hF rfl rfl rfl ?_
    refine hF.v (x_move rfl) fun a hF => ?_
    refine s_grdn 58 hF rfl rfl (by decide) fun a hF => ?_
    refine s_grdn 58 hF rfl rfl (by decide) fun a hF => ?_
    refine s_grdn 58 hF rfl rfl (by decide) fun a hF => ?_
    refine s_grdn 58 hF rfl rfl (by decide) fun a hF => ?_
    refine s_grdu 62 hF rfl rfl (by decide) fun a hF => ?_
    refine s_grdu 62 hF rfl rfl (by decide) fun a hF => ?_
    refine s_grdu 62 hF rfl rfl (by decide) fun a hF => ?_
    refine s_grdn 58 hF rfl rfl (by decide) fun a hF => ?_
    refine s_grd 54 hF rfl rfl rfl ?_
    refine hF.v (x_pick (b := false) rfl rfl) fun a hF => ?_
    refine hF.v (x_pick (b := false) rfl rfl) fun a hF => ?_
    refine hF.v (x_assign rfl) fun a hF => ?_
    refine s_end (hK49 _ _ ?_)
    refine wp_if hF rfl ?_
    refine wp_rs fun K50 hK50 => ?_
    refine hF.v (x_fa0 fa24_0 rfl) fun a hF => ?_
    refine hF.v (x_load rfl (m_load flat3 (m4.cell (j := 0) rfl))) fun a hF => ?_
    refine hF.v (eqlT (by omega) rfl rfl) fun a hF => ?_
    refine hF.v (x_move rfl) fun a hF => ?_
    refine s_grd 73 hF rfl rfl rfl ?_
    refine hF.v (x_fa0 fa24_1 rfl) fun a hF => ?_
    refine s_grd 73 hF rfl rfl rfl ?_
    refine hF.v (x_load rfl (m_load flat3 (m4.cell (j := 1) rfl))) fun a hF => ?_
    refine s_grd 73 hF rfl rfl rfl ?_
    refine hF.v (lssT (by omega) rfl rfl) fun a hF => ?_
    refine s_grd 73 hF rfl rfl rfl ?_
    refine hF.v (x_move rfl) fun a hF => ?_
    refine s_grdn 77 hF rfl rfl (by decide) fun a hF => ?_
    refine s_grdn 77 hF rfl rfl (by decide) fun a hF => ?_
    refine s_grdn 77 hF rfl rfl (by decide) fun a hF => ?_
    refine s_grdn 77 hF rfl rfl (by decide) fun a hF => ?_
    refine s_grd 73 hF rfl rfl rfl ?_
    refine hF.v (x_pick (b := true) rfl rfl) fun a hF => ?_
    refine hF.v (x_pick (b := true) rfl rfl) fun a hF => ?_
    refine hF.v (x_assign rfl) fun a hF => ?_
    refine s_end (hK50 _ _ ?_)
    refine wp_if hF rfl ?_
    refine wp_rs fun K51 hK51 => ?_
    refine hF.v (x_assign rfl) fun a hF => ?_
    refine s_end (hK51 _ _ ?_)
    refine wp_ret (inb_ret (then_ret (res_slot hF rfl rfl ⟨_, rfl, ⟨int_of (chk_ten (by omega) hkl hnb (by omega)).symm, fun h => absurd ((chk_ten (by omega) hkl hnb (by omega)).symm.trans h) (by decide)⟩, hK⟩)))
   ·
    have hnb : numB 1048576 k n = true := numB_iff.2 (by omega)
    refine wp_rs fun K52 hK52 => ?_
    refine hF.v (x_fa0 fa24_0 rfl) fun a hF => ?_
    refine hF.v (x_load rfl (m_load flat3 (m4.cell (j := 0) rfl))) fun a hF => ?_
    refine hF.v (eqlF (by omega) rfl rfl) fun a hF => ?_
    refine hF.v (x_move rfl) fun a hF => ?_
    refine s_grdn 44 hF rfl rfl (by decide) fun a hF => ?_
    refine s_grdn 44 hF rfl rfl (by decide) fun a hF => ?_
    refine s_grdn 44 hF rfl rfl (by decide) fun a hF => ?_
    refine s_grdn 44 hF rfl rfl (by decide) fun a hF => ?_
    refine s_grdu 48 hF rfl rfl (by decide) fun a hF => ?_
    refine s_grdu 48 hF rfl rfl (by decide) fun a hF => ?_
    refine s_grdu 48 hF rfl rfl (by decide) fun a hF => ?_
    refine s_grdn 44 hF rfl rfl (by decide) fun a hF => ?_
    refine hF.v (x_pick (b := false) rfl rfl) fun a hF => ?_
    refine hF.v (x_move rfl) fun a hF => ?_
    refine s_grd 54 hF rfl rfl rfl ?_
    refine hF.v (x_fa0 fa24_0 rfl) fun a hF => ?_
    refine s_grd 54 hF rfl rfl rfl ?_
    refine hF.v (x_load rfl (m_load flat3 (m4.cell (j := 0) rfl))) fun a hF => ?_
    refine s_grd 54 hF rfl rfl rfl ?_
    refine hF.v (eqlF (by omega) rfl rfl) fun a hF => ?_
    refine s_grd 54 hF rfl rfl rfl ?_
    refine hF.v (x_move rfl) fun a hF => ?_
    refine s_grdn 58 hF rfl rfl (by decide) fun a hF => ?_
    refine s_grdn 58 hF rfl rfl (by decide) fun a hF => ?_
    refine s_grdn 58 hF rfl rfl (by decide) fun a hF => ?_
    refine s_grdn 58 hF rfl rfl (by decide) fun a hF => ?_
    refine s_grdu 62 hF rfl rfl (by decide) fun a hF => ?_
    refine s_grdu 62 hF rfl rfl (by decide) fun a hF => ?_
    refine s_grdu 62 hF rfl rfl (by decide) fun a hF => ?_
    refine s_grdn 58 hF rfl rfl (by decide) fun a hF => ?_
    refine s_grd 54 hF rfl rfl rfl ?_
    refine hF.v (x_pick (b := false) rfl rfl) fun a hF => ?_
    refine hF.v (x_pick (b := false) rfl rfl) fun a hF => ?_
    refine hF.v (x_assign rfl) fun a hF => ?_
    refine s_end (hK52 _ _ ?_)
    refine wp_if hF rfl ?_
    refine wp_rs fun K53 hK53 => ?_
    refine hF.v (x_fa0 fa24_0 rfl) fun a hF => ?_
    refine hF.v (x_load rfl (m_load flat3 (m4.cell (j := 0) rfl))) fun a hF => ?_
    refine hF.v (eqlT (by omega) rfl rfl) fun a hF => ?_
    refine hF.v (x_move rfl) fun a hF => ?_
    refine s_grd 73 hF rfl rfl rfl ?_
    refine hF.v (x_fa0 fa24_1 rfl) fun a hF => ?_
    refine s_grd 73 hF rfl rfl rfl ?_
    refine hF.v (x_load rfl (m_load flat3 (m4.cell (j := 1) rfl))) fun a hF => ?_
    refine s_grd 73 hF rfl rfl rfl ?_
    refine hF.v (lssF (by omega) rfl rfl) fun a hF => ?_
    refine s_grd 73 hF rfl rfl rfl ?_
    refine hF.v (x_move rfl) fun a hF => ?_
    refine s_grd 77 hF rfl rfl rfl ?_
    refine hF.v (x_fa0 fa24_1 rfl) fun a hF => ?_
    refine s_grd 77 hF rfl rfl rfl ?_
    refine hF.v (x_load rfl (m_load flat3 (m4.cell (j := 1) rfl))) fun a hF => ?_
    refine s_grd 77 hF rfl rfl rfl ?_
    refine hF.v (x_move rfl) fun a hF => ?_
    refine s_grd 77 hF rfl rfl rfl ?_
    refine hF.v (geqT (by omega) rfl rfl) fun a hF => ?_
    refine s_grd 73 hF rfl rfl rfl ?_
    refine hF.v (x_pick (b := false) rfl rfl) fun a hF => ?_
    refine hF.v (x_pick (b := true) rfl rfl) fun a hF => ?_
    refine hF.v (x_assign rfl) fun a hF => ?_
    refine s_end (hK53 _ _ ?_)
    refine wp_if hF rfl ?_
    refine wp_rs fun K54 hK54 => ?_
    refine hF.v (x_assign rfl) fun a hF => ?_
    refine s_end (hK54 _ _ ?_)
    refine wp_ret (inb_ret (then_ret (res_slot hF rfl rfl ⟨_, rfl, ⟨int_of (chk_ten (by omega) hkl hnb (by omega)).symm, fun h => absurd ((chk_ten (by omega) hkl hnb (by omega)).symm.trans h) (by decide)⟩, hK⟩)))
   ·
    have hnb : numB 1048576 k n = true := numB_iff.2 (by omega)
    have hnd := nodeE_iff.2 ⟨hp.1, hp.2, hkl, hnb, (by omega : ¬ (k = 2 ∧ (n < 0 ∨ vars ≤ n)))⟩
    refine wp_rs fun K55 hK55 => ?_
    refine hF.v (x_fa0 fa24_0 rfl) fun a hF => ?_
    refine hF.v (x_load rfl (m_load flat3 (m4.cell (j := 0) rfl))) fun a hF => ?_
    refine hF.v (eqlF (by omega) rfl rfl) fun a hF => ?_
    refine hF.v (x_move rfl) fun a hF => ?_
    refine s_grdn 44 hF rfl rfl (by decide) fun a hF => ?_
    refine s_grdn 44 hF rfl rfl (by decide) fun a hF => ?_
    refine s_grdn 44 hF rfl rfl (by decide) fun a hF => ?_
    refine s_grdn 44 hF rfl rfl (by decide) fun a hF => ?_
    refine s_grdu 48 hF rfl rfl (by decide) fun a hF => ?_
    refine s_grdu 48 hF rfl rfl (by decide) fun a hF => ?_
    refine s_grdu 48 hF rfl rfl (by decide) fun a hF => ?_
    refine s_grdn 44 hF rfl rfl (by decide) fun a hF => ?_
    refine hF.v (x_pick (b := false) rfl rfl) fun a hF => ?_
    refine hF.v (x_move rfl) fun a hF => ?_
    refine s_grd 54 hF rfl rfl rfl ?_
    refine hF.v (x_fa0 fa24_0 rfl) fun a hF => ?_
    refine s_grd 54 hF rfl rfl rfl ?_
    refine hF.v (x_load rfl (m_load flat3 (m4.cell (j := 0) rfl))) fun a hF => ?_
    refine s_grd 54 hF rfl rfl rfl ?_
    refine hF.v (eqlF (by omega) rfl rfl) fun a hF => ?_
    refine s_grd 54 hF rfl rfl rfl ?_
    refine hF.v (x_move rfl) fun a hF => ?_
    refine s_grdn 58 hF rfl rfl (by decide) fun a hF => ?_
    refine s_grdn 58 hF rfl rfl (by decide) fun a hF => ?_
    refine s_grdn 58 hF rfl rfl (by decide) fun a hF => ?_
    refine s_grdn 58 hF rfl rfl (by decide) fun a hF => ?_
    refine s_grdu 62 hF rfl rfl (by decide) fun a hF => ?_
    refine s_grdu 62 hF rfl rfl (by decide) fun a hF => ?_
    refine s_grdu 62 hF rfl rfl (by decide) fun a hF => ?_
    refine s_grdn 58 hF rfl rfl (by decide) fun a hF => ?_
    refine s_grd 54 hF rfl rfl rfl ?_
    refine hF.v (x_pick (b := false) rfl rfl) fun a hF => ?_
    refine hF.v (x_pick (b := false) rfl rfl) fun a hF => ?_
    refine hF.v (x_assign rfl) fun a hF => ?_
    refine s_end (hK55 _ _ ?_)
    refine wp_if hF rfl ?_
    refine wp_rs fun K56 hK56 => ?_
    refine hF.v (x_fa0 fa24_0 rfl) fun a hF => ?_
    refine hF.v (x_load rfl (m_load flat3 (m4.cell (j := 0) rfl))) fun a hF => ?_
    refine hF.v (eqlT (by omega) rfl rfl) fun a hF => ?_
    refine hF.v (x_move rfl) fun a hF => ?_
    refine s_grd 73 hF rfl rfl rfl ?_
    refine hF.v (x_fa0 fa24_1 rfl) fun a hF => ?_
    refine s_grd 73 hF rfl rfl rfl ?_
    refine hF.v (x_load rfl (m_load flat3 (m4.cell (j := 1) rfl))) fun a hF => ?_
    refine s_grd 73 hF rfl rfl rfl ?_
    refine hF.v (lssF (by omega) rfl rfl) fun a hF => ?_
    refine s_grd 73 hF rfl rfl rfl ?_
    refine hF.v (x_move rfl) fun a hF => ?_
    refine s_grd 77 hF rfl rfl rfl ?_
    refine hF.v (x_fa0 fa24_1 rfl) fun a hF => ?_
    refine s_grd 77 hF rfl rfl rfl ?_
    refine hF.v (x_load rfl (m_load flat3 (m4.cell (j := 1) rfl))) fun a hF => ?_
    refine s_grd 77 hF rfl rfl rfl ?_
    refine hF.v (x_move rfl) fun a hF => ?_
    refine s_grd 77 hF rfl rfl rfl ?_
    refine hF.v (geqF (by omega) rfl rfl) fun a hF => ?_
    refine s_grd 73 hF rfl rfl rfl ?_
    refine hF.v (x_pick (b := false) rfl rfl) fun a hF => ?_
    refine hF.v (x_pick (b := true) rfl rfl) fun a hF => ?_
    refine hF.v (x_assign rfl) fun a hF => ?_
    refine s_end (hK56 _ _ ?_)
    refine wp_if hF rfl ?_
    refine wp_skip (hK3 _ _ ?_)
    refine wp_seq_k fun K57 hK57 => ?_
    refine wp_rs fun K58 hK58 => ?_
    refine hF.v (x_fa0 fa24_2 rfl) fun a hF => ?_
    refine hF.v (x_load rfl (m_load flat22 (m4.cell (j := 2) rfl))) fun a hF => ?_
    refine hF.v (x_len Try.underlying22 rfl) fun a hF => ?_
    refine hF.v (x_move rfl) fun a hF => ?_
    refine s_end (hK58 _ _ ?_)
    refine wp_block ?_
    have mg : Blk w10 g 3 [.int .i64 (100 - ((r - 1 : Nat) : Int))] := by rw [show (100 : Int) - ((r - 1 : Nat) : Int) = 100 - (r : Int) + 1 by omega]; exact mg
    refine wp_up xs.length (fun i a w => ∃ ri : Nat, ri ≤ 100 ∧ chks 32 1048576 vars (d + 1) (r - 1) ls = chks 32 1048576 vars (d + 1) ri (ls.drop i) ∧ Blk w g 3 [.int .i64 (100 - (ri : Int))] ∧ Below w0.heap.size w0 w ∧ Ktw g g w1 w ∧ Fs 101 a [(87, .int .i64 (i : Int)), (86, .int .i64 (xs.length : Int)), (85, .slice av xs.length cv), (1, .int .i64 vars), (2, .int .i64 d), (3, .pointer (some ⟨g, 0, none⟩))]) ⟨r - 1, by omega, rfl, mg, hB, hK, hF.sub _ rfl⟩ ?_
    clear hF hB hK mg
    rintro i a w hi ⟨ri, hri, hck, mg, hB, hK, hF⟩ K' hK'
    have sB := hB.size
    have hgl := mg.lt
    have sK := hK.size
    have hle := kids_le hkl
    refine wp_rs fun K59 hK59 => ?_
    refine hF.v (x_lss rfl rfl rfl) fun a hF => ?_
    refine s_end (hK59 _ _ ?_)
    refine wp_seq_k fun K60 hK60 => ?_
    refine wp_iff hF rfl (fun hc88 => ?_) (fun hc88 => ?_)
    ·
     obtain ⟨b, off, c, y, hve, hy, hrow⟩ := rd_row3 hR (i := i) (by omega)
     cases hve
     obtain ⟨l, hlk⟩ : ∃ l, ls[i]? = some l := ⟨_, List.getElem?_eq_getElem (by omega)⟩
     have ihy := ih i y l hy hlk
     have h1y := (hk i y l hy hlk).one1
     rw [drop_at hlk] at hck
     refine wp_skip (hK60 _ _ ?_)
     refine wp_seq_k fun K61 hK61 => ?_
     refine wp_block ?_
     refine wp_rs fun K62 hK62 => ?_
     refine hF.v (x_ixa rfl rfl (m_ixsK i Try.underlying22 el22.size rfl (by omega))) fun a hF => ?_
     refine hF.v (x_ldA wide24 (hrow _ hB) rfl rfl) fun a hF => ?_
     refine s_alloc hF (by decide) zero24 fun w24 b10 a eb10 m10 B25 zb10 hF => ?_
     have sB25 := B25.size
     have hB := bt hB B25
     have hK := hK.below B25
     have mg := mg.old B25
     refine s_putW hF rfl rfl (size_wide wide24) m10 rfl (one_lc h1y) fun w26 m10 o27 => ?_
     have so27 := o27.size
     have hB := hB.trans (o27.below (by omega))
     have hK := hK.only o27 (by omega)
     have mg := mg.only o27 (by omega)
     refine s_end (hK62 _ _ ?_)
     refine wp_rs fun K63 hK63 => ?_
     refine hF.v (x_ldW wide24 m10 rfl rfl) fun a hF => ?_
     refine hF.v (x_move rfl) fun a hF => ?_
     refine hF.v (x_move rfl) fun a hF => ?_
     refine hF.v (x_add (by omega) (by omega) rfl rfl) fun a hF => ?_
     refine hF.v (x_move rfl) fun a hF => ?_
     refine s_call (R := fun u w' => (u = .int .i64 (chk 32 1048576 vars (d + 1) ri l).1 ∧ ((chk 32 1048576 vars (d + 1) ri l).1 = 0 → Blk w' g 3 [.int .i64 (100 - ((chk 32 1048576 vars (d + 1) ri l).2 : Int))])) ∧ Ktw g g w26 w') hF [_, _, _, _] E68 rfl (by decide) (ihy (d + 1) ri w26 (by omega) (by omega) hri hB mg) ?_
     rintro _ w28 a ⟨⟨rfl, hmg⟩, k29⟩ hF
     have sk29 := k29.size
     have hB := k29.under hB (by omega)
     have hK := hK.trans k29 (by omega)
     refine hF.v (x_assign rfl) fun a hF => ?_
     refine s_end (hK63 _ _ ?_)
     refine wp_rs fun K64 hK64 => ?_
     refine hF.v (x_move rfl) fun a hF => ?_
     refine hF.v (x_neq rfl rfl rfl) fun a hF => ?_
     refine s_end (hK64 _ _ ?_)
     refine wp_iff hF rfl (fun hc98 => ?_) (fun hc98 => ?_)
     ·
      refine wp_rs fun K65 hK65 => ?_
      refine hF.v (x_move rfl) fun a hF => ?_
      refine hF.v (x_assign rfl) fun a hF => ?_
      refine s_end (hK65 _ _ ?_)
      refine wp_ret (inb_ret (then_ret (then_ret (inb_ret (then_ret (res_slot hF rfl rfl ⟨_, rfl, ⟨int_of (by rw [chk_in hnd, hck, chks_out hc98]), fun h => absurd (by rw [chk_in hnd, hck, chks_out hc98] at h; exact h) hc98⟩, hK⟩))))))
     ·
      have hc0 : (chk 32 1048576 vars (d + 1) ri l).1 = 0 := by omega
      have mg := hmg hc0
      refine wp_skip (hK61 _ _ ?_)
      refine wp_region_lit ?_
      refine hF.v (x_addn (i + 1) (by omega) (by omega) rfl rfl) fun a hF => ?_
      refine hF.v (x_move rfl) fun a hF => ?_
      refine s_end (hK' _ _ (by omega) ⟨(chk 32 1048576 vars (d + 1) ri l).2, Nat.le_trans (chk_le _ _ _ _ _ _) hri, by rw [hck, chks_in hc0], mg, hB, hK, hF.sub _ rfl⟩)
    ·
     refine wp_exit (hK57 _ _ ?_)
     refine wp_rs fun K66 hK66 => ?_
     refine hF.v (x_assign rfl) fun a hF => ?_
     refine s_end (hK66 _ _ ?_)
     have hnil : ls.drop i = [] := List.drop_of_length_le (by omega)
     rw [hnil] at hck
     refine wp_ret (res_slot hF rfl rfl ⟨_, rfl, ⟨int_of (by rw [chk_in hnd, hck]; rfl), fun _ => by rw [chk_in hnd, hck]; exact mg⟩, hK⟩)
   ·
    have hnb : numB 1048576 k n = true := numB_iff.2 (by omega)
    have hnd := nodeE_iff.2 ⟨hp.1, hp.2, hkl, hnb, (by omega : ¬ (k = 2 ∧ (n < 0 ∨ vars ≤ n)))⟩
    refine wp_rs fun K67 hK67 => ?_
    refine hF.v (x_fa0 fa24_0 rfl) fun a hF => ?_
    refine hF.v (x_load rfl (m_load flat3 (m4.cell (j := 0) rfl))) fun a hF => ?_
    refine hF.v (eqlF (by omega) rfl rfl) fun a hF => ?_
    refine hF.v (x_move rfl) fun a hF => ?_
    refine s_grdn 44 hF rfl rfl (by decide) fun a hF => ?_
    refine s_grdn 44 hF rfl rfl (by decide) fun a hF => ?_
    refine s_grdn 44 hF rfl rfl (by decide) fun a hF => ?_
    refine s_grdn 44 hF rfl rfl (by decide) fun a hF => ?_
    refine s_grdu 48 hF rfl rfl (by decide) fun a hF => ?_
    refine s_grdu 48 hF rfl rfl (by decide) fun a hF => ?_
    refine s_grdu 48 hF rfl rfl (by decide) fun a hF => ?_
    refine s_grdn 44 hF rfl rfl (by decide) fun a hF => ?_
    refine hF.v (x_pick (b := false) rfl rfl) fun a hF => ?_
    refine hF.v (x_move rfl) fun a hF => ?_
    refine s_grd 54 hF rfl rfl rfl ?_
    refine hF.v (x_fa0 fa24_0 rfl) fun a hF => ?_
    refine s_grd 54 hF rfl rfl rfl ?_
    refine hF.v (x_load rfl (m_load flat3 (m4.cell (j := 0) rfl))) fun a hF => ?_
    refine s_grd 54 hF rfl rfl rfl ?_
    refine hF.v (eqlF (by omega) rfl rfl) fun a hF => ?_
    refine s_grd 54 hF rfl rfl rfl ?_
    refine hF.v (x_move rfl) fun a hF => ?_
    refine s_grdn 58 hF rfl rfl (by decide) fun a hF => ?_
    refine s_grdn 58 hF rfl rfl (by decide) fun a hF => ?_
    refine s_grdn 58 hF rfl rfl (by decide) fun a hF => ?_
    refine s_grdn 58 hF rfl rfl (by decide) fun a hF => ?_
    refine s_grdu 62 hF rfl rfl (by decide) fun a hF => ?_
    refine s_grdu 62 hF rfl rfl (by decide) fun a hF => ?_
    refine s_grdu 62 hF rfl rfl (by decide) fun a hF => ?_
    refine s_grdn 58 hF rfl rfl (by decide) fun a hF => ?_
    refine s_grd 54 hF rfl rfl rfl ?_
    refine hF.v (x_pick (b := false) rfl rfl) fun a hF => ?_
    refine hF.v (x_pick (b := false) rfl rfl) fun a hF => ?_
    refine hF.v (x_assign rfl) fun a hF => ?_
    refine s_end (hK67 _ _ ?_)
    refine wp_if hF rfl ?_
    refine wp_rs fun K68 hK68 => ?_
    refine hF.v (x_fa0 fa24_0 rfl) fun a hF => ?_
    refine hF.v (x_load rfl (m_load flat3 (m4.cell (j := 0) rfl))) fun a hF => ?_
    refine hF.v (eqlF (by omega) rfl rfl) fun a hF => ?_
    refine hF.v (x_move rfl) fun a hF => ?_
    refine s_grdn 73 hF rfl rfl (by decide) fun a hF => ?_
    refine s_grdn 73 hF rfl rfl (by decide) fun a hF => ?_
    refine s_grdn 73 hF rfl rfl (by decide) fun a hF => ?_
    refine s_grdn 73 hF rfl rfl (by decide) fun a hF => ?_
    refine s_grdu 77 hF rfl rfl (by decide) fun a hF => ?_
    refine s_grdu 77 hF rfl rfl (by decide) fun a hF => ?_
    refine s_grdu 77 hF rfl rfl (by decide) fun a hF => ?_
    refine s_grdu 77 hF rfl rfl (by decide) fun a hF => ?_
    refine s_grdn 73 hF rfl rfl (by decide) fun a hF => ?_
    refine hF.v (x_pick (b := false) rfl rfl) fun a hF => ?_
    refine hF.v (x_assign rfl) fun a hF => ?_
    refine s_end (hK68 _ _ ?_)
    refine wp_if hF rfl ?_
    refine wp_skip (hK3 _ _ ?_)
    refine wp_seq_k fun K69 hK69 => ?_
    refine wp_rs fun K70 hK70 => ?_
    refine hF.v (x_fa0 fa24_2 rfl) fun a hF => ?_
    refine hF.v (x_load rfl (m_load flat22 (m4.cell (j := 2) rfl))) fun a hF => ?_
    refine hF.v (x_len Try.underlying22 rfl) fun a hF => ?_
    refine hF.v (x_move rfl) fun a hF => ?_
    refine s_end (hK70 _ _ ?_)
    refine wp_block ?_
    have mg : Blk w10 g 3 [.int .i64 (100 - ((r - 1 : Nat) : Int))] := by rw [show (100 : Int) - ((r - 1 : Nat) : Int) = 100 - (r : Int) + 1 by omega]; exact mg
    refine wp_up xs.length (fun i a w => ∃ ri : Nat, ri ≤ 100 ∧ chks 32 1048576 vars (d + 1) (r - 1) ls = chks 32 1048576 vars (d + 1) ri (ls.drop i) ∧ Blk w g 3 [.int .i64 (100 - (ri : Int))] ∧ Below w0.heap.size w0 w ∧ Ktw g g w1 w ∧ Fs 101 a [(87, .int .i64 (i : Int)), (86, .int .i64 (xs.length : Int)), (85, .slice av xs.length cv), (1, .int .i64 vars), (2, .int .i64 d), (3, .pointer (some ⟨g, 0, none⟩))]) ⟨r - 1, by omega, rfl, mg, hB, hK, hF.sub _ rfl⟩ ?_
    clear hF hB hK mg
    rintro i a w hi ⟨ri, hri, hck, mg, hB, hK, hF⟩ K' hK'
    have sB := hB.size
    have hgl := mg.lt
    have sK := hK.size
    have hle := kids_le hkl
    refine wp_rs fun K71 hK71 => ?_
    refine hF.v (x_lss rfl rfl rfl) fun a hF => ?_
    refine s_end (hK71 _ _ ?_)
    refine wp_seq_k fun K72 hK72 => ?_
    refine wp_iff hF rfl (fun hc88 => ?_) (fun hc88 => ?_)
    ·
     obtain ⟨b, off, c, y, hve, hy, hrow⟩ := rd_row3 hR (i := i) (by omega)
     cases hve
     obtain ⟨l, hlk⟩ : ∃ l, ls[i]? = some l := ⟨_, List.getElem?_eq_getElem (by omega)⟩
     have ihy := ih i y l hy hlk
     have h1y := (hk i y l hy hlk).one1
     rw [drop_at hlk] at hck
     refine wp_skip (hK72 _ _ ?_)
     refine wp_seq_k fun K73 hK73 => ?_
     refine wp_block ?_
     refine wp_rs fun K74 hK74 => ?_
     refine hF.v (x_ixa rfl rfl (m_ixsK i Try.underlying22 el22.size rfl (by omega))) fun a hF => ?_
     refine hF.v (x_ldA wide24 (hrow _ hB) rfl rfl) fun a hF => ?_
     refine s_alloc hF (by decide) zero24 fun w30 b10 a eb10 m10 B31 zb10 hF => ?_
     have sB31 := B31.size
     have hB := bt hB B31
     have hK := hK.below B31
     have mg := mg.old B31
     refine s_putW hF rfl rfl (size_wide wide24) m10 rfl (one_lc h1y) fun w32 m10 o33 => ?_
     have so33 := o33.size
     have hB := hB.trans (o33.below (by omega))
     have hK := hK.only o33 (by omega)
     have mg := mg.only o33 (by omega)
     refine s_end (hK74 _ _ ?_)
     refine wp_rs fun K75 hK75 => ?_
     refine hF.v (x_ldW wide24 m10 rfl rfl) fun a hF => ?_
     refine hF.v (x_move rfl) fun a hF => ?_
     refine hF.v (x_move rfl) fun a hF => ?_
     refine hF.v (x_add (by omega) (by omega) rfl rfl) fun a hF => ?_
     refine hF.v (x_move rfl) fun a hF => ?_
     refine s_call (R := fun u w' => (u = .int .i64 (chk 32 1048576 vars (d + 1) ri l).1 ∧ ((chk 32 1048576 vars (d + 1) ri l).1 = 0 → Blk w' g 3 [.int .i64 (100 - ((chk 32 1048576 vars (d + 1) ri l).2 : Int))])) ∧ Ktw g g w32 w') hF [_, _, _, _] E68 rfl (by decide) (ihy (d + 1) ri w32 (by omega) (by omega) hri hB mg) ?_
     rintro _ w34 a ⟨⟨rfl, hmg⟩, k35⟩ hF
     have sk35 := k35.size
     have hB := k35.under hB (by omega)
     have hK := hK.trans k35 (by omega)
     refine hF.v (x_assign rfl) fun a hF => ?_
     refine s_end (hK75 _ _ ?_)
     refine wp_rs fun K76 hK76 => ?_
     refine hF.v (x_move rfl) fun a hF => ?_
     refine hF.v (x_neq rfl rfl rfl) fun a hF => ?_
     refine s_end (hK76 _ _ ?_)
     refine wp_iff hF rfl (fun hc98 => ?_) (fun hc98 => ?_)
     ·
      refine wp_rs fun K77 hK77 => ?_
      refine hF.v (x_move rfl) fun a hF => ?_
      refine hF.v (x_assign rfl) fun a hF => ?_
      refine s_end (hK77 _ _ ?_)
      refine wp_ret (inb_ret (then_ret (then_ret (inb_ret (then_ret (res_slot hF rfl rfl ⟨_, rfl, ⟨int_of (by rw [chk_in hnd, hck, chks_out hc98]), fun h => absurd (by rw [chk_in hnd, hck, chks_out hc98] at h; exact h) hc98⟩, hK⟩))))))
     ·
      have hc0 : (chk 32 1048576 vars (d + 1) ri l).1 = 0 := by omega
      have mg := hmg hc0
      refine wp_skip (hK73 _ _ ?_)
      refine wp_region_lit ?_
      refine hF.v (x_addn (i + 1) (by omega) (by omega) rfl rfl) fun a hF => ?_
      refine hF.v (x_move rfl) fun a hF => ?_
      refine s_end (hK' _ _ (by omega) ⟨(chk 32 1048576 vars (d + 1) ri l).2, Nat.le_trans (chk_le _ _ _ _ _ _) hri, by rw [hck, chks_in hc0], mg, hB, hK, hF.sub _ rfl⟩)
    ·
     refine wp_exit (hK69 _ _ ?_)
     refine wp_rs fun K78 hK78 => ?_
     refine hF.v (x_assign rfl) fun a hF => ?_
     refine s_end (hK78 _ _ ?_)
     have hnil : ls.drop i = [] := List.drop_of_length_le (by omega)
     rw [hnil] at hck
     refine wp_ret (res_slot hF rfl rfl ⟨_, rfl, ⟨int_of (by rw [chk_in hnd, hck]; rfl), fun _ => by rw [chk_in hnd, hck]; exact mg⟩, hK⟩)

set_option maxRecDepth 100000 in
set_option maxHeartbeats 1600000 in
theorem rmay14 (x : C3) (l : Lv) (vars : Int) (w0 : World) (hL : RL w0 x l) : Calls Try.prog 28 #[lv x, .int .i64 vars] w0 fun e w' => e = .returned (.int .i64 (chk 32 1048576 vars 1 100 l).1) ∧ Below w0.heap.size w0 w' := by
 have hB := Below.refl w0.heap.size w0
 have sB := hB.size
 refine calls_fs 9 [(0, lv x), (1, .int .i64 vars)] Try.func28 rfl rfl rfl rfl rfl fun a hF => ?_
 refine wp_rs fun K1 hK1 => ?_
 refine s_box (lc x) hF (by decide) rfl rfl fun w2 b2 a eb2 m2 B3 zb2 hF => ?_
 have sB3 := B3.size
 have hB := bt hB B3
 refine hF.v (x_assign rfl) fun a hF => ?_
 refine s_end (hK1 _ _ ?_)
 refine wp_rs fun K2 hK2 => ?_
 refine s_alloc1 hF (by decide) zero3 rfl fun w4 b5 a eb5 m5 B5 zb5 hF => ?_
 have sB5 := B5.size
 have hB := bt hB B5
 have m2 := m2.old B5
 refine s_put hF rfl rfl flat3 m5 (by simp) rfl fun w6 m5 o7 => ?_
 have so7 := o7.size
 have hB := hB.trans (o7.below (by omega))
 have m2 := m2.only o7 (by omega)
 refine s_end (hK2 _ _ ?_)
 refine wp_rs fun K3 hK3 => ?_
 refine hF.v (x_ldW wide24 m2 rfl rfl) fun a hF => ?_
 refine hF.v (x_move rfl) fun a hF => ?_
 refine s_call (R := fun u w' => (u = .int .i64 (chk 32 1048576 vars 1 100 l).1 ∧ ((chk 32 1048576 vars 1 100 l).1 = 0 → Blk w' b5 3 [.int .i64 (100 - ((chk 32 1048576 vars 1 100 l).2 : Int))])) ∧ Ktw b5 b5 w6 w') hF [_, _, _, _] E68 rfl (by decide) (rmay35 vars w0 b5 (by omega) x l hL 1 100 w6 (by decide) (by decide) (by decide) hB m5) ?_
 rintro _ w8 a ⟨⟨rfl, _⟩, k9⟩ hF
 have sk9 := k9.size
 have hB := k9.under hB (by omega)
 refine hF.v (x_assign rfl) fun a hF => ?_
 refine s_end (hK3 _ _ ?_)
 refine wp_ret (res_slot hF rfl rfl ⟨rfl, hB⟩)
end Go.Proofs.Ytbhhbfdoadecgaa

namespace Go.Proofs.Ytbhhbfdoadecgaa
open Go.RowKit Go.Shelf
set_option linter.unusedVariables false
set_option linter.unusedSimpArgs false

theorem chk_no {D top vars d : Int} {r : Nat} {k n : Int} {ls : List Lv} (h : nodeE D top vars d r k n ls.length ≠ 0) : (chk D top vars d r (.mk k n ls)).1 ≠ 0 := by rw [chk_out h]; exact h
theorem node_two {D top vars d : Int} {r : Nat} {k n : Int} {len : Nat} (h : D < d ∨ r = 0) : nodeE D top vars d r k n len ≠ 0 := fun h1 => by have := nodeE_iff.1 h1; omega
theorem node_kid {D top vars d : Int} {r : Nat} {k n : Int} {len : Nat} (h : arI k < 0 ∨ (len : Int) ≠ arI k) : nodeE D top vars d r k n len ≠ 0 := fun h1 => by
 have := (nodeE_iff.1 h1).2.2.1
 rw [arI_no h] at this
 cases this
theorem node_num {D top vars d : Int} {r : Nat} {k n : Int} {len : Nat} (h : ¬ ((k = 1 → 0 ≤ n ∧ n ≤ top) ∧ (k = 3 → 1 ≤ n ∧ n ≤ top))) : nodeE D top vars d r k n len ≠ 0 := fun h1 => h (numB_iff.1 (nodeE_iff.1 h1).2.2.2.1)
theorem node_var {D top vars d : Int} {r : Nat} {k n : Int} {len : Nat} (h : k = 2 ∧ (n < 0 ∨ vars ≤ n)) : nodeE D top vars d r k n len ≠ 0 := fun h1 => (nodeE_iff.1 h1).2.2.2.2 h
theorem nil_of_kids {k : Int} {ls : List Lv} (h : kidsB k ls.length = true) (hk : k = 1 ∨ k = 2) : ls = [] := List.eq_nil_of_length_eq_zero (by have := kidsB_iff.1 h; omega)
theorem bool_of {p : Prop} [Decidable p] {b : Bool} (h : b = decide p) : Value.bool b = Value.bool (decide p) := by rw [h]

set_option maxRecDepth 100000 in
set_option maxHeartbeats 1600000 in
theorem rsound39 (w0 : World) (g : Nat) (hg : w0.heap.size ≤ g) : ∀ (x : C3) (l : Lv), RL w0 x l → ∀ (d : Int) (r : Nat) (w1 : World), 1 ≤ d → d ≤ 300 → r ≤ 1000 → Below w0.heap.size w0 w1 → Blk w1 g 3 [.int .i64 (1000 - (r : Int))] →
  Calls Try.prog 91 #[lv x, .int .i64 d, .pointer (some ⟨g, 0, none⟩)] w1 fun e w' => ∃ v, e = .returned v ∧ (v = .bool (decide ((chk 256 1099511627776 1001 d r l).1 = 0)) ∧ ((chk 256 1099511627776 1001 d r l).1 = 0 → Blk w' g 3 [.int .i64 (1000 - ((chk 256 1099511627776 1001 d r l).2 : Int))])) ∧ Ktw g g w1 w' := by
 intro x l h
 induction h with
 | @mk k n v xs ls hR hl hk hbd9 ih =>
 intro d r w1 hd1 hd2 hr hB mg
 obtain ⟨av, cv, rfl, _⟩ := hR.form
 have hK := Ktw.refl g g w1
 have sB := hB.size
 have hgl := mg.lt
 refine calls_fs 83 [(0, .agg [.int .i64 k, .int .i64 n, .slice av xs.length cv].toArray), (1, .int .i64 d), (2, .pointer (some ⟨g, 0, none⟩))] Try.func91 rfl rfl rfl rfl rfl fun a hF => ?_
 refine wp_rs fun K1 hK1 => ?_
 refine s_box ([.int .i64 k, .int .i64 n, .slice av xs.length cv]) hF (by decide) rfl rfl fun w2 b3 a eb3 m3 B3 zb3 hF => ?_
 have sB3 := B3.size
 have hB := bt hB B3
 have hK := hK.below B3
 have mg := mg.old B3
 refine hF.v (x_assign rfl) fun a hF => ?_
 refine s_end (hK1 _ _ ?_)
 refine wp_rs fun K2 hK2 => ?_
 refine hF.v (x_move rfl) fun a hF => ?_
 refine hF.v (x_nil rfl) fun a hF => ?_
 refine hF.v (x_load rfl (m_load flat3 (mg.cell (j := 0) rfl))) fun a hF => ?_
 refine hF.v (x_add (by omega) (by omega) rfl rfl) fun a hF => ?_
 refine hF.v (x_nil rfl) fun a hF => ?_
 refine s_put hF rfl rfl flat3 mg (by simp) rfl fun w4 mg o5 => ?_
 have so5 := o5.size
 have hB := hB.trans (o5.below (by omega))
 have hK := hK.only o5 (by omega)
 have m3 := m3.only o5 (by omega)
 refine s_end (hK2 _ _ ?_)
 refine wp_seq_k fun K3 hK3 => ?_
 rcases (show 256 < d ∨ (d ≤ 256 ∧ r = 0) ∨ (d ≤ 256 ∧ r ≠ 0 ∧ arI k < 0) ∨ (d ≤ 256 ∧ r ≠ 0 ∧ 0 ≤ arI k ∧ (xs.length : Int) ≠ arI k) ∨ (d ≤ 256 ∧ r ≠ 0 ∧ 0 ≤ arI k ∧ (xs.length : Int) = arI k) by omega) with hp | hp | hp | hp | hp
 ·
  skip
  refine dk2_seq (w4.heap.size) (w4.heap.size) (ops := regOps Try.f91 2) (N := 23) (by kernel_rfl) wide_orders (by kernel_rfl) fun w6 hw6 B7 hS K5 hK5 => ?_
  have zw6 : w6.heap.size = w4.heap.size := by rw [hw6]
  have sB7 := B7.size
  have hB := bt hB B7
  have hK := hK.below B7
  have mg := mg.old B7
  have m3 := m3.old B7
  have mg_d := mg
  have m3_d := m3
  have hB_d := hB
  have hK_d := hK
  refine hF.d 0 14 (.move (.tmp 1)) hS (fun W hW => x_move rfl) fun a hF => ?_
  refine hF.d 1 15 (.binOp .gtr 3 (.tmp 14) (.const (.int .i64 256)) 3) hS (fun W hW => gtrT (by omega) rfl rfl) fun a hF => ?_
  refine hF.d 2 16 (.move (.tmp 15)) hS (fun W hW => x_move rfl) fun a hF => ?_
  refine d_skip 3 17 16 (j := 2) (want := false) (op := (.move (.tmp 2))) hF hS (by kernel_rfl) (by kernel_rfl) rfl (by kernel_rfl) (by decide) fun a hF => ?_
  refine d_skip 4 18 16 (j := 2) (want := false) (op := (.nilCheck (.tmp 17))) hF hS (by kernel_rfl) (by kernel_rfl) rfl (by kernel_rfl) (by decide) fun a hF => ?_
  refine d_skip 5 19 16 (j := 2) (want := false) (op := (.load 3 (.tmp 18))) hF hS (by kernel_rfl) (by kernel_rfl) rfl (by kernel_rfl) (by decide) fun a hF => ?_
  refine d_skip 6 20 16 (j := 2) (want := false) (op := (.binOp .gtr 3 (.tmp 19) (.const (.int .i64 1000)) 3)) hF hS (by kernel_rfl) (by kernel_rfl) rfl (by kernel_rfl) (by decide) fun a hF => ?_
  refine hF.d 7 21 (.pick (.tmp 16) (.const (.bool true)) (.tmp 20)) hS (fun W hW => x_pick (b := true) rfl rfl) fun a hF => ?_
  refine hF.d 8 22 (.move (.tmp 21)) hS (fun W hW => x_move rfl) fun a hF => ?_
  refine d_skip 9 23 22 (j := 8) (want := false) (op := (.fieldAddr 24 (.tmp 3) 0)) hF hS (by kernel_rfl) (by kernel_rfl) rfl (by kernel_rfl) (by decide) fun a hF => ?_
  refine d_skip 10 24 22 (j := 8) (want := false) (op := (.load 3 (.tmp 23))) hF hS (by kernel_rfl) (by kernel_rfl) rfl (by kernel_rfl) (by decide) fun a hF => ?_
  refine d_skip 11 25 22 (j := 8) (want := false) (op := (.call (.mk (.value (.func 113)) #[(.tmp 24)] #[3]))) hF hS (by kernel_rfl) (by kernel_rfl) rfl (by kernel_rfl) (by decide) fun a hF => ?_
  refine d_skip 12 26 22 (j := 8) (want := false) (op := (.binOp .lss 3 (.tmp 25) (.const (.int .i64 0)) 3)) hF hS (by kernel_rfl) (by kernel_rfl) rfl (by kernel_rfl) (by decide) fun a hF => ?_
  refine hF.d 13 27 (.pick (.tmp 22) (.const (.bool true)) (.tmp 26)) hS (fun W hW => x_pick (b := true) rfl rfl) fun a hF => ?_
  refine hF.d 14 28 (.move (.tmp 27)) hS (fun W hW => x_move rfl) fun a hF => ?_
  refine d_skip 15 29 28 (j := 14) (want := false) (op := (.fieldAddr 24 (.tmp 3) 2)) hF hS (by kernel_rfl) (by kernel_rfl) rfl (by kernel_rfl) (by decide) fun a hF => ?_
  refine d_skip 16 30 28 (j := 14) (want := false) (op := (.load 22 (.tmp 29))) hF hS (by kernel_rfl) (by kernel_rfl) rfl (by kernel_rfl) (by decide) fun a hF => ?_
  refine d_skip 17 31 28 (j := 14) (want := false) (op := (.call (.mk (.builtin .len) #[(.tmp 30)] #[22]))) hF hS (by kernel_rfl) (by kernel_rfl) rfl (by kernel_rfl) (by decide) fun a hF => ?_
  refine d_skip 18 32 28 (j := 14) (want := false) (op := (.fieldAddr 24 (.tmp 3) 0)) hF hS (by kernel_rfl) (by kernel_rfl) rfl (by kernel_rfl) (by decide) fun a hF => ?_
  refine d_skip 19 33 28 (j := 14) (want := false) (op := (.load 3 (.tmp 32))) hF hS (by kernel_rfl) (by kernel_rfl) rfl (by kernel_rfl) (by decide) fun a hF => ?_
  refine d_skip 20 34 28 (j := 14) (want := false) (op := (.call (.mk (.value (.func 113)) #[(.tmp 33)] #[3]))) hF hS (by kernel_rfl) (by kernel_rfl) rfl (by kernel_rfl) (by decide) fun a hF => ?_
  refine d_skip 21 35 28 (j := 14) (want := false) (op := (.binOp .neq 3 (.tmp 31) (.tmp 34) 3)) hF hS (by kernel_rfl) (by kernel_rfl) rfl (by kernel_rfl) (by decide) fun a hF => ?_
  refine hF.d 22 36 (.pick (.tmp 28) (.const (.bool true)) (.tmp 35)) hS (fun W hW => x_pick (b := true) rfl rfl) fun a hF => ?_
  refine d_end (by kernel_rfl) (hK5 _ _ ?_)
  refine wp_if hF rfl ?_
  refine wp_rs fun K6 hK6 => ?_
  refine hF.v (x_assign rfl) fun a hF => ?_
  refine s_end (hK6 _ _ ?_)
  refine wp_ret (then_ret (res_slot hF rfl rfl ⟨_, rfl, ⟨bool_of (decide_eq_false (chk_no (node_two (by omega)))).symm, fun h => absurd h (chk_no (node_two (by omega)))⟩, hK⟩))
 ·
  skip
  refine dk2_seq (w4.heap.size) (w4.heap.size) (ops := regOps Try.f91 2) (N := 23) (by kernel_rfl) wide_orders (by kernel_rfl) fun w8 hw8 B9 hS K7 hK7 => ?_
  have zw8 : w8.heap.size = w4.heap.size := by rw [hw8]
  have sB9 := B9.size
  have hB := bt hB B9
  have hK := hK.below B9
  have mg := mg.old B9
  have m3 := m3.old B9
  have mg_d := mg
  have m3_d := m3
  have hB_d := hB
  have hK_d := hK
  refine hF.d 0 14 (.move (.tmp 1)) hS (fun W hW => x_move rfl) fun a hF => ?_
  refine hF.d 1 15 (.binOp .gtr 3 (.tmp 14) (.const (.int .i64 256)) 3) hS (fun W hW => gtrF (by omega) rfl rfl) fun a hF => ?_
  refine hF.d 2 16 (.move (.tmp 15)) hS (fun W hW => x_move rfl) fun a hF => ?_
  refine hF.g 3 17 16 2 false (.move (.tmp 2)) hS rfl (fun W hW => x_move rfl) fun a hF => ?_
  refine hF.g 4 18 16 2 false (.nilCheck (.tmp 17)) hS rfl (fun W hW => x_nil rfl) fun a hF => ?_
  refine hF.g 5 19 16 2 false (.load 3 (.tmp 18)) hS rfl (fun W hW => x_load rfl (m_load flat3 ((mg_d.k2 hW (by omega)).cell (j := 0) rfl))) fun a hF => ?_
  refine hF.g 6 20 16 2 false (.binOp .gtr 3 (.tmp 19) (.const (.int .i64 1000)) 3) hS rfl (fun W hW => gtrT (by omega) rfl rfl) fun a hF => ?_
  refine hF.d 7 21 (.pick (.tmp 16) (.const (.bool true)) (.tmp 20)) hS (fun W hW => x_pick (b := false) rfl rfl) fun a hF => ?_
  refine hF.d 8 22 (.move (.tmp 21)) hS (fun W hW => x_move rfl) fun a hF => ?_
  refine d_skip 9 23 22 (j := 8) (want := false) (op := (.fieldAddr 24 (.tmp 3) 0)) hF hS (by kernel_rfl) (by kernel_rfl) rfl (by kernel_rfl) (by decide) fun a hF => ?_
  refine d_skip 10 24 22 (j := 8) (want := false) (op := (.load 3 (.tmp 23))) hF hS (by kernel_rfl) (by kernel_rfl) rfl (by kernel_rfl) (by decide) fun a hF => ?_
  refine d_skip 11 25 22 (j := 8) (want := false) (op := (.call (.mk (.value (.func 113)) #[(.tmp 24)] #[3]))) hF hS (by kernel_rfl) (by kernel_rfl) rfl (by kernel_rfl) (by decide) fun a hF => ?_
  refine d_skip 12 26 22 (j := 8) (want := false) (op := (.binOp .lss 3 (.tmp 25) (.const (.int .i64 0)) 3)) hF hS (by kernel_rfl) (by kernel_rfl) rfl (by kernel_rfl) (by decide) fun a hF => ?_
  refine hF.d 13 27 (.pick (.tmp 22) (.const (.bool true)) (.tmp 26)) hS (fun W hW => x_pick (b := true) rfl rfl) fun a hF => ?_
  refine hF.d 14 28 (.move (.tmp 27)) hS (fun W hW => x_move rfl) fun a hF => ?_
  refine d_skip 15 29 28 (j := 14) (want := false) (op := (.fieldAddr 24 (.tmp 3) 2)) hF hS (by kernel_rfl) (by kernel_rfl) rfl (by kernel_rfl) (by decide) fun a hF => ?_
  refine d_skip 16 30 28 (j := 14) (want := false) (op := (.load 22 (.tmp 29))) hF hS (by kernel_rfl) (by kernel_rfl) rfl (by kernel_rfl) (by decide) fun a hF => ?_
  refine d_skip 17 31 28 (j := 14) (want := false) (op := (.call (.mk (.builtin .len) #[(.tmp 30)] #[22]))) hF hS (by kernel_rfl) (by kernel_rfl) rfl (by kernel_rfl) (by decide) fun a hF => ?_
  refine d_skip 18 32 28 (j := 14) (want := false) (op := (.fieldAddr 24 (.tmp 3) 0)) hF hS (by kernel_rfl) (by kernel_rfl) rfl (by kernel_rfl) (by decide) fun a hF => ?_
  refine d_skip 19 33 28 (j := 14) (want := false) (op := (.load 3 (.tmp 32))) hF hS (by kernel_rfl) (by kernel_rfl) rfl (by kernel_rfl) (by decide) fun a hF => ?_
  refine d_skip 20 34 28 (j := 14) (want := false) (op := (.call (.mk (.value (.func 113)) #[(.tmp 33)] #[3]))) hF hS (by kernel_rfl) (by kernel_rfl) rfl (by kernel_rfl) (by decide) fun a hF => ?_
  refine d_skip 21 35 28 (j := 14) (want := false) (op := (.binOp .neq 3 (.tmp 31) (.tmp 34) 3)) hF hS (by kernel_rfl) (by kernel_rfl) rfl (by kernel_rfl) (by decide) fun a hF => ?_
  refine hF.d 22 36 (.pick (.tmp 28) (.const (.bool true)) (.tmp 35)) hS (fun W hW => x_pick (b := true) rfl rfl) fun a hF => ?_
  refine d_end (by kernel_rfl) (hK7 _ _ ?_)
  refine wp_if hF rfl ?_
  refine wp_rs fun K8 hK8 => ?_
  refine hF.v (x_assign rfl) fun a hF => ?_
  refine s_end (hK8 _ _ ?_)
  refine wp_ret (then_ret (res_slot hF rfl rfl ⟨_, rfl, ⟨bool_of (decide_eq_false (chk_no (node_two (by omega)))).symm, fun h => absurd h (chk_no (node_two (by omega)))⟩, hK⟩))
 ·
  skip
  refine dk2_seq (w4.heap.size) (w4.heap.size) (ops := regOps Try.f91 2) (N := 23) (by kernel_rfl) wide_orders (by kernel_rfl) fun w10 hw10 B11 hS K9 hK9 => ?_
  have zw10 : w10.heap.size = w4.heap.size := by rw [hw10]
  have sB11 := B11.size
  have hB := bt hB B11
  have hK := hK.below B11
  have mg := mg.old B11
  have m3 := m3.old B11
  have mg_d := mg
  have m3_d := m3
  have hB_d := hB
  have hK_d := hK
  refine hF.d 0 14 (.move (.tmp 1)) hS (fun W hW => x_move rfl) fun a hF => ?_
  refine hF.d 1 15 (.binOp .gtr 3 (.tmp 14) (.const (.int .i64 256)) 3) hS (fun W hW => gtrF (by omega) rfl rfl) fun a hF => ?_
  refine hF.d 2 16 (.move (.tmp 15)) hS (fun W hW => x_move rfl) fun a hF => ?_
  refine hF.g 3 17 16 2 false (.move (.tmp 2)) hS rfl (fun W hW => x_move rfl) fun a hF => ?_
  refine hF.g 4 18 16 2 false (.nilCheck (.tmp 17)) hS rfl (fun W hW => x_nil rfl) fun a hF => ?_
  refine hF.g 5 19 16 2 false (.load 3 (.tmp 18)) hS rfl (fun W hW => x_load rfl (m_load flat3 ((mg_d.k2 hW (by omega)).cell (j := 0) rfl))) fun a hF => ?_
  refine hF.g 6 20 16 2 false (.binOp .gtr 3 (.tmp 19) (.const (.int .i64 1000)) 3) hS rfl (fun W hW => gtrF (by omega) rfl rfl) fun a hF => ?_
  refine hF.d 7 21 (.pick (.tmp 16) (.const (.bool true)) (.tmp 20)) hS (fun W hW => x_pick (b := false) rfl rfl) fun a hF => ?_
  refine hF.d 8 22 (.move (.tmp 21)) hS (fun W hW => x_move rfl) fun a hF => ?_
  refine hF.g 9 23 22 8 false (.fieldAddr 24 (.tmp 3) 0) hS rfl (fun W hW => x_fa0 fa24_0 rfl) fun a hF => ?_
  refine hF.g 10 24 22 8 false (.load 3 (.tmp 23)) hS rfl (fun W hW => x_load rfl (m_load flat3 ((m3_d.k2 hW (by omega)).cell (j := 0) rfl))) fun a hF => ?_
  refine d_oneg 11 22 (some 25) (.call (.mk (.value (.func 113)) #[(.tmp 24)] #[3])) (j := 8) (want := false) hF (by kernel_rfl) (by kernel_rfl) (by kernel_rfl) rfl fun ty pos af => ?_
  refine s_callS [.int .i64 k] hF E113 rfl (by decide) (arity58 k _) fun a hF => ?_
  refine s_end ⟨hS, ?_⟩
  refine hF.g 12 26 22 8 false (.binOp .lss 3 (.tmp 25) (.const (.int .i64 0)) 3) hS rfl (fun W hW => lssT (by omega) rfl rfl) fun a hF => ?_
  refine hF.d 13 27 (.pick (.tmp 22) (.const (.bool true)) (.tmp 26)) hS (fun W hW => x_pick (b := false) rfl rfl) fun a hF => ?_
  refine hF.d 14 28 (.move (.tmp 27)) hS (fun W hW => x_move rfl) fun a hF => ?_
  refine d_skip 15 29 28 (j := 14) (want := false) (op := (.fieldAddr 24 (.tmp 3) 2)) hF hS (by kernel_rfl) (by kernel_rfl) rfl (by kernel_rfl) (by decide) fun a hF => ?_
  refine d_skip 16 30 28 (j := 14) (want := false) (op := (.load 22 (.tmp 29))) hF hS (by kernel_rfl) (by kernel_rfl) rfl (by kernel_rfl) (by decide) fun a hF => ?_
  refine d_skip 17 31 28 (j := 14) (want := false) (op := (.call (.mk (.builtin .len) #[(.tmp 30)] #[22]))) hF hS (by kernel_rfl) (by kernel_rfl) rfl (by kernel_rfl) (by decide) fun a hF => ?_
  refine d_skip 18 32 28 (j := 14) (want := false) (op := (.fieldAddr 24 (.tmp 3) 0)) hF hS (by kernel_rfl) (by kernel_rfl) rfl (by kernel_rfl) (by decide) fun a hF => ?_
  refine d_skip 19 33 28 (j := 14) (want := false) (op := (.load 3 (.tmp 32))) hF hS (by kernel_rfl) (by kernel_rfl) rfl (by kernel_rfl) (by decide) fun a hF => ?_
  refine d_skip 20 34 28 (j := 14) (want := false) (op := (.call (.mk (.value (.func 113)) #[(.tmp 33)] #[3]))) hF hS (by kernel_rfl) (by kernel_rfl) rfl (by kernel_rfl) (by decide) fun a hF => ?_
  refine d_skip 21 35 28 (j := 14) (want := false) (op := (.binOp .neq 3 (.tmp 31) (.tmp 34) 3)) hF hS (by kernel_rfl) (by kernel_rfl) rfl (by kernel_rfl) (by decide) fun a hF => ?_
  refine hF.d 22 36 (.pick (.tmp 28) (.const (.bool true)) (.tmp 35)) hS (fun W hW => x_pick (b := true) rfl rfl) fun a hF => ?_
  refine d_end (by kernel_rfl) (hK9 _ _ ?_)
  refine wp_if hF rfl ?_
  refine wp_rs fun K10 hK10 => ?_
  refine hF.v (x_assign rfl) fun a hF => ?_
  refine s_end (hK10 _ _ ?_)
  refine wp_ret (then_ret (res_slot hF rfl rfl ⟨_, rfl, ⟨bool_of (decide_eq_false (chk_no (node_kid (by omega)))).symm, fun h => absurd h (chk_no (node_kid (by omega)))⟩, hK⟩))
 ·
  skip
  refine dk2_seq (w4.heap.size) (w4.heap.size) (ops := regOps Try.f91 2) (N := 23) (by kernel_rfl) wide_orders (by kernel_rfl) fun w12 hw12 B13 hS K11 hK11 => ?_
  have zw12 : w12.heap.size = w4.heap.size := by rw [hw12]
  have sB13 := B13.size
  have hB := bt hB B13
  have hK := hK.below B13
  have mg := mg.old B13
  have m3 := m3.old B13
  have mg_d := mg
  have m3_d := m3
  have hB_d := hB
  have hK_d := hK
  refine hF.d 0 14 (.move (.tmp 1)) hS (fun W hW => x_move rfl) fun a hF => ?_
  refine hF.d 1 15 (.binOp .gtr 3 (.tmp 14) (.const (.int .i64 256)) 3) hS (fun W hW => gtrF (by omega) rfl rfl) fun a hF => ?_
  refine hF.d 2 16 (.move (.tmp 15)) hS (fun W hW => x_move rfl) fun a hF => ?_
  refine hF.g 3 17 16 2 false (.move (.tmp 2)) hS rfl (fun W hW => x_move rfl) fun a hF => ?_
  refine hF.g 4 18 16 2 false (.nilCheck (.tmp 17)) hS rfl (fun W hW => x_nil rfl) fun a hF => ?_
  refine hF.g 5 19 16 2 false (.load 3 (.tmp 18)) hS rfl (fun W hW => x_load rfl (m_load flat3 ((mg_d.k2 hW (by omega)).cell (j := 0) rfl))) fun a hF => ?_
  refine hF.g 6 20 16 2 false (.binOp .gtr 3 (.tmp 19) (.const (.int .i64 1000)) 3) hS rfl (fun W hW => gtrF (by omega) rfl rfl) fun a hF => ?_
  refine hF.d 7 21 (.pick (.tmp 16) (.const (.bool true)) (.tmp 20)) hS (fun W hW => x_pick (b := false) rfl rfl) fun a hF => ?_
  refine hF.d 8 22 (.move (.tmp 21)) hS (fun W hW => x_move rfl) fun a hF => ?_
  refine hF.g 9 23 22 8 false (.fieldAddr 24 (.tmp 3) 0) hS rfl (fun W hW => x_fa0 fa24_0 rfl) fun a hF => ?_
  refine hF.g 10 24 22 8 false (.load 3 (.tmp 23)) hS rfl (fun W hW => x_load rfl (m_load flat3 ((m3_d.k2 hW (by omega)).cell (j := 0) rfl))) fun a hF => ?_
  refine d_oneg 11 22 (some 25) (.call (.mk (.value (.func 113)) #[(.tmp 24)] #[3])) (j := 8) (want := false) hF (by kernel_rfl) (by kernel_rfl) (by kernel_rfl) rfl fun ty pos af => ?_
  refine s_callS [.int .i64 k] hF E113 rfl (by decide) (arity58 k _) fun a hF => ?_
  refine s_end ⟨hS, ?_⟩
  refine hF.g 12 26 22 8 false (.binOp .lss 3 (.tmp 25) (.const (.int .i64 0)) 3) hS rfl (fun W hW => lssF (by omega) rfl rfl) fun a hF => ?_
  refine hF.d 13 27 (.pick (.tmp 22) (.const (.bool true)) (.tmp 26)) hS (fun W hW => x_pick (b := false) rfl rfl) fun a hF => ?_
  refine hF.d 14 28 (.move (.tmp 27)) hS (fun W hW => x_move rfl) fun a hF => ?_
  refine hF.g 15 29 28 14 false (.fieldAddr 24 (.tmp 3) 2) hS rfl (fun W hW => x_fa0 fa24_2 rfl) fun a hF => ?_
  refine hF.g 16 30 28 14 false (.load 22 (.tmp 29)) hS rfl (fun W hW => x_load rfl (m_load flat22 ((m3_d.k2 hW (by omega)).cell (j := 2) rfl))) fun a hF => ?_
  refine hF.g 17 31 28 14 false (.call (.mk (.builtin .len) #[(.tmp 30)] #[22])) hS rfl (fun W hW => x_len Try.underlying22 rfl) fun a hF => ?_
  refine hF.g 18 32 28 14 false (.fieldAddr 24 (.tmp 3) 0) hS rfl (fun W hW => x_fa0 fa24_0 rfl) fun a hF => ?_
  refine hF.g 19 33 28 14 false (.load 3 (.tmp 32)) hS rfl (fun W hW => x_load rfl (m_load flat3 ((m3_d.k2 hW (by omega)).cell (j := 0) rfl))) fun a hF => ?_
  refine d_oneg 20 28 (some 34) (.call (.mk (.value (.func 113)) #[(.tmp 33)] #[3])) (j := 14) (want := false) hF (by kernel_rfl) (by kernel_rfl) (by kernel_rfl) rfl fun ty pos af => ?_
  refine s_callS [.int .i64 k] hF E113 rfl (by decide) (arity58 k _) fun a hF => ?_
  refine s_end ⟨hS, ?_⟩
  refine hF.g 21 35 28 14 false (.binOp .neq 3 (.tmp 31) (.tmp 34) 3) hS rfl (fun W hW => neqT (by omega) rfl rfl) fun a hF => ?_
  refine hF.d 22 36 (.pick (.tmp 28) (.const (.bool true)) (.tmp 35)) hS (fun W hW => x_pick (b := false) rfl rfl) fun a hF => ?_
  refine d_end (by kernel_rfl) (hK11 _ _ ?_)
  refine wp_if hF rfl ?_
  refine wp_rs fun K12 hK12 => ?_
  refine hF.v (x_assign rfl) fun a hF => ?_
  refine s_end (hK12 _ _ ?_)
  refine wp_ret (then_ret (res_slot hF rfl rfl ⟨_, rfl, ⟨bool_of (decide_eq_false (chk_no (node_kid (by omega)))).symm, fun h => absurd h (chk_no (node_kid (by omega)))⟩, hK⟩))
 ·
  have hkl : kidsB k ls.length = true := arI_kids.2 (by omega)
  refine dk2_seq (w4.heap.size) (w4.heap.size) (ops := regOps Try.f91 2) (N := 23) (by kernel_rfl) wide_orders (by kernel_rfl) fun w14 hw14 B15 hS K13 hK13 => ?_
  have zw14 : w14.heap.size = w4.heap.size := by rw [hw14]
  have sB15 := B15.size
  have hB := bt hB B15
  have hK := hK.below B15
  have mg := mg.old B15
  have m3 := m3.old B15
  have mg_d := mg
  have m3_d := m3
  have hB_d := hB
  have hK_d := hK
  refine hF.d 0 14 (.move (.tmp 1)) hS (fun W hW => x_move rfl) fun a hF => ?_
  refine hF.d 1 15 (.binOp .gtr 3 (.tmp 14) (.const (.int .i64 256)) 3) hS (fun W hW => gtrF (by omega) rfl rfl) fun a hF => ?_
  refine hF.d 2 16 (.move (.tmp 15)) hS (fun W hW => x_move rfl) fun a hF => ?_
  refine hF.g 3 17 16 2 false (.move (.tmp 2)) hS rfl (fun W hW => x_move rfl) fun a hF => ?_
  refine hF.g 4 18 16 2 false (.nilCheck (.tmp 17)) hS rfl (fun W hW => x_nil rfl) fun a hF => ?_
  refine hF.g 5 19 16 2 false (.load 3 (.tmp 18)) hS rfl (fun W hW => x_load rfl (m_load flat3 ((mg_d.k2 hW (by omega)).cell (j := 0) rfl))) fun a hF => ?_
  refine hF.g 6 20 16 2 false (.binOp .gtr 3 (.tmp 19) (.const (.int .i64 1000)) 3) hS rfl (fun W hW => gtrF (by omega) rfl rfl) fun a hF => ?_
  refine hF.d 7 21 (.pick (.tmp 16) (.const (.bool true)) (.tmp 20)) hS (fun W hW => x_pick (b := false) rfl rfl) fun a hF => ?_
  refine hF.d 8 22 (.move (.tmp 21)) hS (fun W hW => x_move rfl) fun a hF => ?_
  refine hF.g 9 23 22 8 false (.fieldAddr 24 (.tmp 3) 0) hS rfl (fun W hW => x_fa0 fa24_0 rfl) fun a hF => ?_
  refine hF.g 10 24 22 8 false (.load 3 (.tmp 23)) hS rfl (fun W hW => x_load rfl (m_load flat3 ((m3_d.k2 hW (by omega)).cell (j := 0) rfl))) fun a hF => ?_
  refine d_oneg 11 22 (some 25) (.call (.mk (.value (.func 113)) #[(.tmp 24)] #[3])) (j := 8) (want := false) hF (by kernel_rfl) (by kernel_rfl) (by kernel_rfl) rfl fun ty pos af => ?_
  refine s_callS [.int .i64 k] hF E113 rfl (by decide) (arity58 k _) fun a hF => ?_
  refine s_end ⟨hS, ?_⟩
  refine hF.g 12 26 22 8 false (.binOp .lss 3 (.tmp 25) (.const (.int .i64 0)) 3) hS rfl (fun W hW => lssF (by omega) rfl rfl) fun a hF => ?_
  refine hF.d 13 27 (.pick (.tmp 22) (.const (.bool true)) (.tmp 26)) hS (fun W hW => x_pick (b := false) rfl rfl) fun a hF => ?_
  refine hF.d 14 28 (.move (.tmp 27)) hS (fun W hW => x_move rfl) fun a hF => ?_
  refine hF.g 15 29 28 14 false (.fieldAddr 24 (.tmp 3) 2) hS rfl (fun W hW => x_fa0 fa24_2 rfl) fun a hF => ?_
  refine hF.g 16 30 28 14 false (.load 22 (.tmp 29)) hS rfl (fun W hW => x_load rfl (m_load flat22 ((m3_d.k2 hW (by omega)).cell (j := 2) rfl))) fun a hF => ?_
  refine hF.g 17 31 28 14 false (.call (.mk (.builtin .len) #[(.tmp 30)] #[22])) hS rfl (fun W hW => x_len Try.underlying22 rfl) fun a hF => ?_
  refine hF.g 18 32 28 14 false (.fieldAddr 24 (.tmp 3) 0) hS rfl (fun W hW => x_fa0 fa24_0 rfl) fun a hF => ?_
  refine hF.g 19 33 28 14 false (.load 3 (.tmp 32)) hS rfl (fun W hW => x_load rfl (m_load flat3 ((m3_d.k2 hW (by omega)).cell (j := 0) rfl))) fun a hF => ?_
  refine d_oneg 20 28 (some 34) (.call (.mk (.value (.func 113)) #[(.tmp 33)] #[3])) (j := 14) (want := false) hF (by kernel_rfl) (by kernel_rfl) (by kernel_rfl) rfl fun ty pos af => ?_
  refine s_callS [.int .i64 k] hF E113 rfl (by decide) (arity58 k _) fun a hF => ?_
  refine s_end ⟨hS, ?_⟩
  refine hF.g 21 35 28 14 false (.binOp .neq 3 (.tmp 31) (.tmp 34) 3) hS rfl (fun W hW => neqF (by omega) rfl rfl) fun a hF => ?_
  refine hF.d 22 36 (.pick (.tmp 28) (.const (.bool true)) (.tmp 35)) hS (fun W hW => x_pick (b := false) rfl rfl) fun a hF => ?_
  refine d_end (by kernel_rfl) (hK13 _ _ ?_)
  refine wp_if hF rfl ?_
  refine wp_skip (hK3 _ _ ?_)
  refine wp_seq_k fun K14 hK14 => ?_
  rcases (show (k = 1 ∧ n < 0) ∨ (k = 1 ∧ 0 ≤ n ∧ 1099511627776 < n) ∨ (k = 1 ∧ 0 ≤ n ∧ n ≤ 1099511627776) ∨ (k = 2 ∧ n < 0) ∨ (k = 2 ∧ 0 ≤ n ∧ 1000 < n) ∨ (k = 2 ∧ 0 ≤ n ∧ n ≤ 1000) ∨ (k = 3 ∧ n < 1) ∨ (k = 3 ∧ 1 ≤ n ∧ 1099511627776 < n) ∨ (k = 3 ∧ 1 ≤ n ∧ n ≤ 1099511627776) ∨ (k ≠ 1 ∧ k ≠ 2 ∧ k ≠ 3) by omega) with hv | hv | hv | hv | hv | hv | hv | hv | hv | hv
  ·
   skip
   refine wp_rs fun K16 hK16 => ?_
   refine hF.v (x_fa0 fa24_0 rfl) fun a hF => ?_
   refine hF.v (x_load rfl (m_load flat3 (m3.cell (j := 0) rfl))) fun a hF => ?_
   refine s_end (hK16 _ _ ?_)
   refine wp_block ?_
   refine wp_rs fun K17 hK17 => ?_
   refine hF.v (eqlT (by omega) rfl rfl) fun a hF => ?_
   refine hF.v (x_assign rfl) fun a hF => ?_
   refine s_end (hK17 _ _ ?_)
   refine wp_if hF rfl ?_
   refine wp_rs fun K18 hK18 => ?_
   refine hF.v (x_fa0 fa24_1 rfl) fun a hF => ?_
   refine hF.v (x_load rfl (m_load flat3 (m3.cell (j := 1) rfl))) fun a hF => ?_
   refine hF.v (geqF (by omega) rfl rfl) fun a hF => ?_
   refine hF.v (x_move rfl) fun a hF => ?_
   refine s_grdn 44 hF rfl rfl (by decide) fun a hF => ?_
   refine s_grdn 44 hF rfl rfl (by decide) fun a hF => ?_
   refine s_grdn 44 hF rfl rfl (by decide) fun a hF => ?_
   refine hF.v (x_pick (b := false) rfl rfl) fun a hF => ?_
   refine hF.v (x_assign rfl) fun a hF => ?_
   refine s_end (hK18 _ _ ?_)
   refine wp_ret (inb_ret (then_ret (res_slot hF rfl rfl ⟨_, rfl, ⟨bool_of (decide_eq_false (chk_no (node_num (by omega)))).symm, fun h => absurd h (chk_no (node_num (by omega)))⟩, hK⟩)))
  ·
   skip
   refine wp_rs fun K19 hK19 => ?_
   refine hF.v (x_fa0 fa24_0 rfl) fun a hF => ?_
   refine hF.v (x_load rfl (m_load flat3 (m3.cell (j := 0) rfl))) fun a hF => ?_
   refine s_end (hK19 _ _ ?_)
   refine wp_block ?_
   refine wp_rs fun K20 hK20 => ?_
   refine hF.v (eqlT (by omega) rfl rfl) fun a hF => ?_
   refine hF.v (x_assign rfl) fun a hF => ?_
   refine s_end (hK20 _ _ ?_)
   refine wp_if hF rfl ?_
   refine wp_rs fun K21 hK21 => ?_
   refine hF.v (x_fa0 fa24_1 rfl) fun a hF => ?_
   refine hF.v (x_load rfl (m_load flat3 (m3.cell (j := 1) rfl))) fun a hF => ?_
   refine hF.v (geqT (by omega) rfl rfl) fun a hF => ?_
   refine hF.v (x_move rfl) fun a hF => ?_
   refine s_grd 44 hF rfl rfl rfl ?_
   refine hF.v (x_fa0 fa24_1 rfl) fun a hF => ?_
   refine s_grd 44 hF rfl rfl rfl ?_
   refine hF.v (x_load rfl (m_load flat3 (m3.cell (j := 1) rfl))) fun a hF => ?_
   refine s_grd 44 hF rfl rfl rfl ?_
   refine hF.v (leqF (by omega) rfl rfl) fun a hF => ?_
   refine hF.v (x_pick (b := true) rfl rfl) fun a hF => ?_
   refine hF.v (x_assign rfl) fun a hF => ?_
   refine s_end (hK21 _ _ ?_)
   refine wp_ret (inb_ret (then_ret (res_slot hF rfl rfl ⟨_, rfl, ⟨bool_of (decide_eq_false (chk_no (node_num (by omega)))).symm, fun h => absurd h (chk_no (node_num (by omega)))⟩, hK⟩)))
  ·
   have hnb : numB 1099511627776 k n = true := numB_iff.2 (by omega)
   have hnd := nodeE_iff.2 ⟨(by omega : d ≤ 256), (by omega : r ≠ 0), hkl, hnb, (by omega : ¬ (k = 2 ∧ (n < 0 ∨ 1001 ≤ n)))⟩
   have hnil := nil_of_kids hkl (by omega)
   refine wp_rs fun K22 hK22 => ?_
   refine hF.v (x_fa0 fa24_0 rfl) fun a hF => ?_
   refine hF.v (x_load rfl (m_load flat3 (m3.cell (j := 0) rfl))) fun a hF => ?_
   refine s_end (hK22 _ _ ?_)
   refine wp_block ?_
   refine wp_rs fun K23 hK23 => ?_
   refine hF.v (eqlT (by omega) rfl rfl) fun a hF => ?_
   refine hF.v (x_assign rfl) fun a hF => ?_
   refine s_end (hK23 _ _ ?_)
   refine wp_if hF rfl ?_
   refine wp_rs fun K24 hK24 => ?_
   refine hF.v (x_fa0 fa24_1 rfl) fun a hF => ?_
   refine hF.v (x_load rfl (m_load flat3 (m3.cell (j := 1) rfl))) fun a hF => ?_
   refine hF.v (geqT (by omega) rfl rfl) fun a hF => ?_
   refine hF.v (x_move rfl) fun a hF => ?_
   refine s_grd 44 hF rfl rfl rfl ?_
   refine hF.v (x_fa0 fa24_1 rfl) fun a hF => ?_
   refine s_grd 44 hF rfl rfl rfl ?_
   refine hF.v (x_load rfl (m_load flat3 (m3.cell (j := 1) rfl))) fun a hF => ?_
   refine s_grd 44 hF rfl rfl rfl ?_
   refine hF.v (leqT (by omega) rfl rfl) fun a hF => ?_
   refine hF.v (x_pick (b := true) rfl rfl) fun a hF => ?_
   refine hF.v (x_assign rfl) fun a hF => ?_
   refine s_end (hK24 _ _ ?_)
   have mg : Blk w14 g 3 [.int .i64 (1000 - ((r - 1 : Nat) : Int))] := by rw [show (1000 : Int) - ((r - 1 : Nat) : Int) = 1000 - (r : Int) + 1 by omega]; exact mg
   refine wp_ret (inb_ret (then_ret (res_slot hF rfl rfl ⟨_, rfl, ⟨bool_of (decide_eq_true (by rw [chk_in hnd, hnil]; rfl)).symm, fun _ => by rw [chk_in hnd, hnil]; exact mg⟩, hK⟩)))
  ·
   skip
   refine wp_rs fun K25 hK25 => ?_
   refine hF.v (x_fa0 fa24_0 rfl) fun a hF => ?_
   refine hF.v (x_load rfl (m_load flat3 (m3.cell (j := 0) rfl))) fun a hF => ?_
   refine s_end (hK25 _ _ ?_)
   refine wp_block ?_
   refine wp_rs fun K26 hK26 => ?_
   refine hF.v (eqlF (by omega) rfl rfl) fun a hF => ?_
   refine hF.v (x_assign rfl) fun a hF => ?_
   refine s_end (hK26 _ _ ?_)
   refine wp_if hF rfl ?_
   refine wp_rs fun K27 hK27 => ?_
   refine hF.v (eqlT (by omega) rfl rfl) fun a hF => ?_
   refine hF.v (x_assign rfl) fun a hF => ?_
   refine s_end (hK27 _ _ ?_)
   refine wp_if hF rfl ?_
   refine wp_rs fun K28 hK28 => ?_
   refine hF.v (x_fa0 fa24_1 rfl) fun a hF => ?_
   refine hF.v (x_load rfl (m_load flat3 (m3.cell (j := 1) rfl))) fun a hF => ?_
   refine hF.v (geqF (by omega) rfl rfl) fun a hF => ?_
   refine hF.v (x_move rfl) fun a hF => ?_
   refine s_grdn 54 hF rfl rfl (by decide) fun a hF => ?_
   refine s_grdn 54 hF rfl rfl (by decide) fun a hF => ?_
   refine s_grdn 54 hF rfl rfl (by decide) fun a hF => ?_
   refine hF.v (x_pick (b := false) rfl rfl) fun a hF => ?_
   refine hF.v (x_assign rfl) fun a hF => ?_
   refine s_end (hK28 _ _ ?_)
   refine wp_ret (inb_ret (then_ret (res_slot hF rfl rfl ⟨_, rfl, ⟨bool_of (decide_eq_false (chk_no (node_var (by omega)))).symm, fun h => absurd h (chk_no (node_var (by omega)))⟩, hK⟩)))
  ·
   skip
   refine wp_rs fun K29 hK29 => ?_
   refine hF.v (x_fa0 fa24_0 rfl) fun a hF => ?_
   refine hF.v (x_load rfl (m_load flat3 (m3.cell (j := 0) rfl))) fun a hF => ?_
   refine s_end (hK29 _ _ ?_)
   refine wp_block ?_
   refine wp_rs fun K30 hK30 => ?_
   refine hF.v (eqlF (by omega) rfl rfl) fun a hF => ?_
   refine hF.v (x_assign rfl) fun a hF => ?_
   refine s_end (hK30 _ _ ?_)
   refine wp_if hF rfl ?_
   refine wp_rs fun K31 hK31 => ?_
   refine hF.v (eqlT (by omega) rfl rfl) fun a hF => ?_
   refine hF.v (x_assign rfl) fun a hF => ?_
   refine s_end (hK31 _ _ ?_)
   refine wp_if hF rfl ?_
   refine wp_rs fun K32 hK32 => ?_
   refine hF.v (x_fa0 fa24_1 rfl) fun a hF => ?_
   refine hF.v (x_load rfl (m_load flat3 (m3.cell (j := 1) rfl))) fun a hF => ?_
   refine hF.v (geqT (by omega) rfl rfl) fun a hF => ?_
   refine hF.v (x_move rfl) fun a hF => ?_
   refine s_grd 54 hF rfl rfl rfl ?_
   refine hF.v (x_fa0 fa24_1 rfl) fun a hF => ?_
   refine s_grd 54 hF rfl rfl rfl ?_
   refine hF.v (x_load rfl (m_load flat3 (m3.cell (j := 1) rfl))) fun a hF => ?_
   refine s_grd 54 hF rfl rfl rfl ?_
   refine hF.v (leqF (by omega) rfl rfl) fun a hF => ?_
   refine hF.v (x_pick (b := true) rfl rfl) fun a hF => ?_
   refine hF.v (x_assign rfl) fun a hF => ?_
   refine s_end (hK32 _ _ ?_)
   refine wp_ret (inb_ret (then_ret (res_slot hF rfl rfl ⟨_, rfl, ⟨bool_of (decide_eq_false (chk_no (node_var (by omega)))).symm, fun h => absurd h (chk_no (node_var (by omega)))⟩, hK⟩)))
  ·
   have hnb : numB 1099511627776 k n = true := numB_iff.2 (by omega)
   have hnd := nodeE_iff.2 ⟨(by omega : d ≤ 256), (by omega : r ≠ 0), hkl, hnb, (by omega : ¬ (k = 2 ∧ (n < 0 ∨ 1001 ≤ n)))⟩
   have hnil := nil_of_kids hkl (by omega)
   refine wp_rs fun K33 hK33 => ?_
   refine hF.v (x_fa0 fa24_0 rfl) fun a hF => ?_
   refine hF.v (x_load rfl (m_load flat3 (m3.cell (j := 0) rfl))) fun a hF => ?_
   refine s_end (hK33 _ _ ?_)
   refine wp_block ?_
   refine wp_rs fun K34 hK34 => ?_
   refine hF.v (eqlF (by omega) rfl rfl) fun a hF => ?_
   refine hF.v (x_assign rfl) fun a hF => ?_
   refine s_end (hK34 _ _ ?_)
   refine wp_if hF rfl ?_
   refine wp_rs fun K35 hK35 => ?_
   refine hF.v (eqlT (by omega) rfl rfl) fun a hF => ?_
   refine hF.v (x_assign rfl) fun a hF => ?_
   refine s_end (hK35 _ _ ?_)
   refine wp_if hF rfl ?_
   refine wp_rs fun K36 hK36 => ?_
   refine hF.v (x_fa0 fa24_1 rfl) fun a hF => ?_
   refine hF.v (x_load rfl (m_load flat3 (m3.cell (j := 1) rfl))) fun a hF => ?_
   refine hF.v (geqT (by omega) rfl rfl) fun a hF => ?_
   refine hF.v (x_move rfl) fun a hF => ?_
   refine s_grd 54 hF rfl rfl rfl ?_
   refine hF.v (x_fa0 fa24_1 rfl) fun a hF => ?_
   refine s_grd 54 hF rfl rfl rfl ?_
   refine hF.v (x_load rfl (m_load flat3 (m3.cell (j := 1) rfl))) fun a hF => ?_
   refine s_grd 54 hF rfl rfl rfl ?_
   refine hF.v (leqT (by omega) rfl rfl) fun a hF => ?_
   refine hF.v (x_pick (b := true) rfl rfl) fun a hF => ?_
   refine hF.v (x_assign rfl) fun a hF => ?_
   refine s_end (hK36 _ _ ?_)
   have mg : Blk w14 g 3 [.int .i64 (1000 - ((r - 1 : Nat) : Int))] := by rw [show (1000 : Int) - ((r - 1 : Nat) : Int) = 1000 - (r : Int) + 1 by omega]; exact mg
   refine wp_ret (inb_ret (then_ret (res_slot hF rfl rfl ⟨_, rfl, ⟨bool_of (decide_eq_true (by rw [chk_in hnd, hnil]; rfl)).symm, fun _ => by rw [chk_in hnd, hnil]; exact mg⟩, hK⟩)))
  ·
   skip
   refine wp_rs fun K37 hK37 => ?_
   refine hF.v (x_fa0 fa24_0 rfl) fun a hF => ?_
   refine hF.v (x_load rfl (m_load flat3 (m3.cell (j := 0) rfl))) fun a hF => ?_
   refine s_end (hK37 _ _ ?_)
   refine wp_block ?_
   refine wp_rs fun K38 hK38 => ?_
   refine hF.v (eqlF (by omega) rfl rfl) fun a hF => ?_
   refine hF.v (x_assign rfl) fun a hF => ?_
   refine s_end (hK38 _ _ ?_)
   refine wp_if hF rfl ?_
   refine wp_rs fun K39 hK39 => ?_
   refine hF.v (eqlF (by omega) rfl rfl) fun a hF => ?_
   refine hF.v (x_assign rfl) fun a hF => ?_
   refine s_end (hK39 _ _ ?_)
   refine wp_if hF rfl ?_
   refine wp_rs fun K40 hK40 => ?_
   refine hF.v (eqlT (by omega) rfl rfl) fun a hF => ?_
   refine hF.v (x_assign rfl) fun a hF => ?_
   refine s_end (hK40 _ _ ?_)
   refine wp_if hF rfl ?_
   refine wp_rs fun K41 hK41 => ?_
   refine hF.v (x_fa0 fa24_1 rfl) fun a hF => ?_
   refine hF.v (x_load rfl (m_load flat3 (m3.cell (j := 1) rfl))) fun a hF => ?_
   refine hF.v (lssT (by omega) rfl rfl) fun a hF => ?_
   refine hF.v (x_move rfl) fun a hF => ?_
   refine s_grdn 64 hF rfl rfl (by decide) fun a hF => ?_
   refine s_grdn 64 hF rfl rfl (by decide) fun a hF => ?_
   refine s_grdn 64 hF rfl rfl (by decide) fun a hF => ?_
   refine hF.v (x_pick (b := true) rfl rfl) fun a hF => ?_
   refine s_end (hK41 _ _ ?_)
   refine wp_if hF rfl ?_
   refine wp_rs fun K42 hK42 => ?_
   refine hF.v (x_assign rfl) fun a hF => ?_
   refine s_end (hK42 _ _ ?_)
   refine wp_ret (inb_ret (then_ret (res_slot hF rfl rfl ⟨_, rfl, ⟨bool_of (decide_eq_false (chk_no (node_num (by omega)))).symm, fun h => absurd h (chk_no (node_num (by omega)))⟩, hK⟩)))
  ·
   skip
   refine wp_rs fun K43 hK43 => ?_
   refine hF.v (x_fa0 fa24_0 rfl) fun a hF => ?_
   refine hF.v (x_load rfl (m_load flat3 (m3.cell (j := 0) rfl))) fun a hF => ?_
   refine s_end (hK43 _ _ ?_)
   refine wp_block ?_
   refine wp_rs fun K44 hK44 => ?_
   refine hF.v (eqlF (by omega) rfl rfl) fun a hF => ?_
   refine hF.v (x_assign rfl) fun a hF => ?_
   refine s_end (hK44 _ _ ?_)
   refine wp_if hF rfl ?_
   refine wp_rs fun K45 hK45 => ?_
   refine hF.v (eqlF (by omega) rfl rfl) fun a hF => ?_
   refine hF.v (x_assign rfl) fun a hF => ?_
   refine s_end (hK45 _ _ ?_)
   refine wp_if hF rfl ?_
   refine wp_rs fun K46 hK46 => ?_
   refine hF.v (eqlT (by omega) rfl rfl) fun a hF => ?_
   refine hF.v (x_assign rfl) fun a hF => ?_
   refine s_end (hK46 _ _ ?_)
   refine wp_if hF rfl ?_
   refine wp_rs fun K47 hK47 => ?_
   refine hF.v (x_fa0 fa24_1 rfl) fun a hF => ?_
   refine hF.v (x_load rfl (m_load flat3 (m3.cell (j := 1) rfl))) fun a hF => ?_
   refine hF.v (lssF (by omega) rfl rfl) fun a hF => ?_
   refine hF.v (x_move rfl) fun a hF => ?_
   refine s_grd 64 hF rfl rfl rfl ?_
   refine hF.v (x_fa0 fa24_1 rfl) fun a hF => ?_
   refine s_grd 64 hF rfl rfl rfl ?_
   refine hF.v (x_load rfl (m_load flat3 (m3.cell (j := 1) rfl))) fun a hF => ?_
   refine s_grd 64 hF rfl rfl rfl ?_
   refine hF.v (gtrT (by omega) rfl rfl) fun a hF => ?_
   refine hF.v (x_pick (b := false) rfl rfl) fun a hF => ?_
   refine s_end (hK47 _ _ ?_)
   refine wp_if hF rfl ?_
   refine wp_rs fun K48 hK48 => ?_
   refine hF.v (x_assign rfl) fun a hF => ?_
   refine s_end (hK48 _ _ ?_)
   refine wp_ret (inb_ret (then_ret (res_slot hF rfl rfl ⟨_, rfl, ⟨bool_of (decide_eq_false (chk_no (node_num (by omega)))).symm, fun h => absurd h (chk_no (node_num (by omega)))⟩, hK⟩)))
  ·
   have hnb : numB 1099511627776 k n = true := numB_iff.2 (by omega)
   have hnd := nodeE_iff.2 ⟨(by omega : d ≤ 256), (by omega : r ≠ 0), hkl, hnb, (by omega : ¬ (k = 2 ∧ (n < 0 ∨ 1001 ≤ n)))⟩
   refine wp_rs fun K49 hK49 => ?_
   refine hF.v (x_fa0 fa24_0 rfl) fun a hF => ?_
   refine hF.v (x_load rfl (m_load flat3 (m3.cell (j := 0) rfl))) fun a hF => ?_
   refine s_end (hK49 _ _ ?_)
   refine wp_block ?_
   refine wp_rs fun K50 hK50 => ?_
   refine hF.v (eqlF (by omega) rfl rfl) fun a hF => ?_
   refine hF.v (x_assign rfl) fun a hF => ?_
   refine s_end (hK50 _ _ ?_)
   refine wp_if hF rfl ?_
   refine wp_rs fun K51 hK51 => ?_
   refine hF.v (eqlF (by omega) rfl rfl) fun a hF => ?_
   refine hF.v (x_assign rfl) fun a hF => ?_
   refine s_end (hK51 _ _ ?_)
   refine wp_if hF rfl ?_
   refine wp_rs fun K52 hK52 => ?_
   refine hF.v (eqlT (by omega) rfl rfl) fun a hF => ?_
   refine hF.v (x_assign rfl) fun a hF => ?_
   refine s_end (hK52 _ _ ?_)
   refine wp_if hF rfl ?_
   refine wp_rs fun K53 hK53 => ?_
   refine hF.v (x_fa0 fa24_1 rfl) fun a hF => ?_
   refine hF.v (x_load rfl (m_load flat3 (m3.cell (j := 1) rfl))) fun a hF => ?_
   refine hF.v (lssF (by omega) rfl rfl) fun a hF => ?_
   refine hF.v (x_move rfl) fun a hF => ?_
   refine s_grd 64 hF rfl rfl rfl ?_
   refine hF.v (x_fa0 fa24_1 rfl) fun a hF => ?_
   refine s_grd 64 hF rfl rfl rfl ?_
   refine hF.v (x_load rfl (m_load flat3 (m3.cell (j := 1) rfl))) fun a hF => ?_
   refine s_grd 64 hF rfl rfl rfl ?_
   refine hF.v (gtrF (by omega) rfl rfl) fun a hF => ?_
   refine hF.v (x_pick (b := false) rfl rfl) fun a hF => ?_
   refine s_end (hK53 _ _ ?_)
   refine wp_if hF rfl ?_
   refine wp_skip (hK14 _ _ ?_)
   refine wp_seq_k fun K54 hK54 => ?_
   refine wp_rs fun K55 hK55 => ?_
   refine hF.v (x_fa0 fa24_2 rfl) fun a hF => ?_
   refine hF.v (x_load rfl (m_load flat22 (m3.cell (j := 2) rfl))) fun a hF => ?_
   refine hF.v (x_len Try.underlying22 rfl) fun a hF => ?_
   refine hF.v (x_move rfl) fun a hF => ?_
   refine s_end (hK55 _ _ ?_)
   refine wp_block ?_
   have mg : Blk w14 g 3 [.int .i64 (1000 - ((r - 1 : Nat) : Int))] := by rw [show (1000 : Int) - ((r - 1 : Nat) : Int) = 1000 - (r : Int) + 1 by omega]; exact mg
   refine wp_up xs.length (fun i a w => ∃ ri : Nat, ri ≤ 1000 ∧ chks 256 1099511627776 1001 (d + 1) (r - 1) ls = chks 256 1099511627776 1001 (d + 1) ri (ls.drop i) ∧ Blk w g 3 [.int .i64 (1000 - (ri : Int))] ∧ Below w0.heap.size w0 w ∧ Ktw g g w1 w ∧ Fs 83 a [(72, .int .i64 (i : Int)), (71, .int .i64 (xs.length : Int)), (70, .slice av xs.length cv), (1, .int .i64 d), (2, .pointer (some ⟨g, 0, none⟩))]) ⟨r - 1, by omega, rfl, mg, hB, hK, hF.sub _ rfl⟩ ?_
   clear hF hB hK mg
   rintro i a w hi ⟨ri, hri, hck, mg, hB, hK, hF⟩ K' hK'
   have sB := hB.size
   have hgl := mg.lt
   have sK := hK.size
   have hle := kids_le hkl
   refine wp_rs fun K56 hK56 => ?_
   refine hF.v (x_lss rfl rfl rfl) fun a hF => ?_
   refine s_end (hK56 _ _ ?_)
   refine wp_seq_k fun K57 hK57 => ?_
   refine wp_iff hF rfl (fun hc73 => ?_) (fun hc73 => ?_)
   ·
    obtain ⟨b, off, c, y, hve, hy, hrow⟩ := rd_row3 hR (i := i) (by omega)
    cases hve
    obtain ⟨l, hlk⟩ : ∃ l, ls[i]? = some l := ⟨_, List.getElem?_eq_getElem (by omega)⟩
    have ihy := ih i y l hy hlk
    have h1y := (hk i y l hy hlk).one1
    rw [drop_at hlk] at hck
    refine wp_skip (hK57 _ _ ?_)
    refine wp_seq_k fun K58 hK58 => ?_
    refine wp_block ?_
    refine wp_rs fun K59 hK59 => ?_
    refine hF.v (x_ixa rfl rfl (m_ixsK i Try.underlying22 el22.size rfl (by omega))) fun a hF => ?_
    refine hF.v (x_ldA wide24 (hrow _ hB) rfl rfl) fun a hF => ?_
    refine s_alloc hF (by decide) zero24 fun w16 b8 a eb8 m8 B17 zb8 hF => ?_
    have sB17 := B17.size
    have hB := bt hB B17
    have hK := hK.below B17
    have mg := mg.old B17
    refine s_putW hF rfl rfl (size_wide wide24) m8 rfl (one_lc h1y) fun w18 m8 o19 => ?_
    have so19 := o19.size
    have hB := hB.trans (o19.below (by omega))
    have hK := hK.only o19 (by omega)
    have mg := mg.only o19 (by omega)
    refine s_end (hK59 _ _ ?_)
    refine wp_rs fun K60 hK60 => ?_
    refine hF.v (x_ldW wide24 m8 rfl rfl) fun a hF => ?_
    refine hF.v (x_move rfl) fun a hF => ?_
    refine hF.v (x_add (by omega) (by omega) rfl rfl) fun a hF => ?_
    refine hF.v (x_move rfl) fun a hF => ?_
    refine s_call (R := fun u w' => (u = .bool (decide ((chk 256 1099511627776 1001 (d + 1) ri l).1 = 0)) ∧ ((chk 256 1099511627776 1001 (d + 1) ri l).1 = 0 → Blk w' g 3 [.int .i64 (1000 - ((chk 256 1099511627776 1001 (d + 1) ri l).2 : Int))])) ∧ Ktw g g w18 w') hF [_, _, _] E91 rfl (by decide) (ihy (d + 1) ri w18 (by omega) (by omega) hri hB mg) ?_
    rintro _ w20 a ⟨⟨rfl, hmg⟩, k21⟩ hF
    have sk21 := k21.size
    have hB := k21.under hB (by omega)
    have hK := hK.trans k21 (by omega)
    refine hF.v (x_not rfl) fun a hF => ?_
    refine s_end (hK60 _ _ ?_)
    refine wp_ifb hF rfl (fun hc81 => ?_) (fun hc81 => ?_)
    ·
     have hc0 : ¬ (chk 256 1099511627776 1001 (d + 1) ri l).1 = 0 := by simpa using hc81
     refine wp_rs fun K61 hK61 => ?_
     refine hF.v (x_assign rfl) fun a hF => ?_
     refine s_end (hK61 _ _ ?_)
     refine wp_ret (inb_ret (then_ret (then_ret (inb_ret (then_ret (res_slot hF rfl rfl ⟨_, rfl, ⟨bool_of (decide_eq_false (by rw [chk_in hnd, hck, chks_out hc0]; exact hc0)).symm, fun h => absurd (by rw [chk_in hnd, hck, chks_out hc0] at h; exact h) hc0⟩, hK⟩))))))
    ·
     have hc0 : (chk 256 1099511627776 1001 (d + 1) ri l).1 = 0 := by simpa using hc81
     have mg := hmg hc0
     refine wp_skip (hK58 _ _ ?_)
     refine wp_region_lit ?_
     refine hF.v (x_addn (i + 1) (by omega) (by omega) rfl rfl) fun a hF => ?_
     refine hF.v (x_move rfl) fun a hF => ?_
     refine s_end (hK' _ _ (by omega) ⟨(chk 256 1099511627776 1001 (d + 1) ri l).2, Nat.le_trans (chk_le _ _ _ _ _ _) hri, by rw [hck, chks_in hc0], mg, hB, hK, hF.sub _ rfl⟩)
   ·
    refine wp_exit (hK54 _ _ ?_)
    refine wp_rs fun K62 hK62 => ?_
    refine hF.v (x_assign rfl) fun a hF => ?_
    refine s_end (hK62 _ _ ?_)
    have hnil : ls.drop i = [] := List.drop_of_length_le (by omega)
    rw [hnil] at hck
    refine wp_ret (res_slot hF rfl rfl ⟨_, rfl, ⟨bool_of (decide_eq_true (by rw [chk_in hnd, hck]; rfl)).symm, fun _ => by rw [chk_in hnd, hck]; exact mg⟩, hK⟩)
  ·
   have hnb : numB 1099511627776 k n = true := numB_iff.2 (by omega)
   have hnd := nodeE_iff.2 ⟨(by omega : d ≤ 256), (by omega : r ≠ 0), hkl, hnb, (by omega : ¬ (k = 2 ∧ (n < 0 ∨ 1001 ≤ n)))⟩
   refine wp_rs fun K63 hK63 => ?_
   refine hF.v (x_fa0 fa24_0 rfl) fun a hF => ?_
   refine hF.v (x_load rfl (m_load flat3 (m3.cell (j := 0) rfl))) fun a hF => ?_
   refine s_end (hK63 _ _ ?_)
   refine wp_block ?_
   refine wp_rs fun K64 hK64 => ?_
   refine hF.v (eqlF (by omega) rfl rfl) fun a hF => ?_
   refine hF.v (x_assign rfl) fun a hF => ?_
   refine s_end (hK64 _ _ ?_)
   refine wp_if hF rfl ?_
   refine wp_rs fun K65 hK65 => ?_
   refine hF.v (eqlF (by omega) rfl rfl) fun a hF => ?_
   refine hF.v (x_assign rfl) fun a hF => ?_
   refine s_end (hK65 _ _ ?_)
   refine wp_if hF rfl ?_
   refine wp_rs fun K66 hK66 => ?_
   refine hF.v (eqlF (by omega) rfl rfl) fun a hF => ?_
   refine hF.v (x_assign rfl) fun a hF => ?_
   refine s_end (hK66 _ _ ?_)
   refine wp_if hF rfl ?_
   refine wp_skip (hK14 _ _ ?_)
   refine wp_seq_k fun K67 hK67 => ?_
   refine wp_rs fun K68 hK68 => ?_
   refine hF.v (x_fa0 fa24_2 rfl) fun a hF => ?_
   refine hF.v (x_load rfl (m_load flat22 (m3.cell (j := 2) rfl))) fun a hF => ?_
   refine hF.v (x_len Try.underlying22 rfl) fun a hF => ?_
   refine hF.v (x_move rfl) fun a hF => ?_
   refine s_end (hK68 _ _ ?_)
   refine wp_block ?_
   have mg : Blk w14 g 3 [.int .i64 (1000 - ((r - 1 : Nat) : Int))] := by rw [show (1000 : Int) - ((r - 1 : Nat) : Int) = 1000 - (r : Int) + 1 by omega]; exact mg
   refine wp_up xs.length (fun i a w => ∃ ri : Nat, ri ≤ 1000 ∧ chks 256 1099511627776 1001 (d + 1) (r - 1) ls = chks 256 1099511627776 1001 (d + 1) ri (ls.drop i) ∧ Blk w g 3 [.int .i64 (1000 - (ri : Int))] ∧ Below w0.heap.size w0 w ∧ Ktw g g w1 w ∧ Fs 83 a [(72, .int .i64 (i : Int)), (71, .int .i64 (xs.length : Int)), (70, .slice av xs.length cv), (1, .int .i64 d), (2, .pointer (some ⟨g, 0, none⟩))]) ⟨r - 1, by omega, rfl, mg, hB, hK, hF.sub _ rfl⟩ ?_
   clear hF hB hK mg
   rintro i a w hi ⟨ri, hri, hck, mg, hB, hK, hF⟩ K' hK'
   have sB := hB.size
   have hgl := mg.lt
   have sK := hK.size
   have hle := kids_le hkl
   refine wp_rs fun K69 hK69 => ?_
   refine hF.v (x_lss rfl rfl rfl) fun a hF => ?_
   refine s_end (hK69 _ _ ?_)
   refine wp_seq_k fun K70 hK70 => ?_
   refine wp_iff hF rfl (fun hc73 => ?_) (fun hc73 => ?_)
   ·
    obtain ⟨b, off, c, y, hve, hy, hrow⟩ := rd_row3 hR (i := i) (by omega)
    cases hve
    obtain ⟨l, hlk⟩ : ∃ l, ls[i]? = some l := ⟨_, List.getElem?_eq_getElem (by omega)⟩
    have ihy := ih i y l hy hlk
    have h1y := (hk i y l hy hlk).one1
    rw [drop_at hlk] at hck
    refine wp_skip (hK70 _ _ ?_)
    refine wp_seq_k fun K71 hK71 => ?_
    refine wp_block ?_
    refine wp_rs fun K72 hK72 => ?_
    refine hF.v (x_ixa rfl rfl (m_ixsK i Try.underlying22 el22.size rfl (by omega))) fun a hF => ?_
    refine hF.v (x_ldA wide24 (hrow _ hB) rfl rfl) fun a hF => ?_
    refine s_alloc hF (by decide) zero24 fun w22 b8 a eb8 m8 B23 zb8 hF => ?_
    have sB23 := B23.size
    have hB := bt hB B23
    have hK := hK.below B23
    have mg := mg.old B23
    refine s_putW hF rfl rfl (size_wide wide24) m8 rfl (one_lc h1y) fun w24 m8 o25 => ?_
    have so25 := o25.size
    have hB := hB.trans (o25.below (by omega))
    have hK := hK.only o25 (by omega)
    have mg := mg.only o25 (by omega)
    refine s_end (hK72 _ _ ?_)
    refine wp_rs fun K73 hK73 => ?_
    refine hF.v (x_ldW wide24 m8 rfl rfl) fun a hF => ?_
    refine hF.v (x_move rfl) fun a hF => ?_
    refine hF.v (x_add (by omega) (by omega) rfl rfl) fun a hF => ?_
    refine hF.v (x_move rfl) fun a hF => ?_
    refine s_call (R := fun u w' => (u = .bool (decide ((chk 256 1099511627776 1001 (d + 1) ri l).1 = 0)) ∧ ((chk 256 1099511627776 1001 (d + 1) ri l).1 = 0 → Blk w' g 3 [.int .i64 (1000 - ((chk 256 1099511627776 1001 (d + 1) ri l).2 : Int))])) ∧ Ktw g g w24 w') hF [_, _, _] E91 rfl (by decide) (ihy (d + 1) ri w24 (by omega) (by omega) hri hB mg) ?_
    rintro _ w26 a ⟨⟨rfl, hmg⟩, k27⟩ hF
    have sk27 := k27.size
    have hB := k27.under hB (by omega)
    have hK := hK.trans k27 (by omega)
    refine hF.v (x_not rfl) fun a hF => ?_
    refine s_end (hK73 _ _ ?_)
    refine wp_ifb hF rfl (fun hc81 => ?_) (fun hc81 => ?_)
    ·
     have hc0 : ¬ (chk 256 1099511627776 1001 (d + 1) ri l).1 = 0 := by simpa using hc81
     refine wp_rs fun K74 hK74 => ?_
     refine hF.v (x_assign rfl) fun a hF => ?_
     refine s_end (hK74 _ _ ?_)
     refine wp_ret (inb_ret (then_ret (then_ret (inb_ret (then_ret (res_slot hF rfl rfl ⟨_, rfl, ⟨bool_of (decide_eq_false (by rw [chk_in hnd, hck, chks_out hc0]; exact hc0)).symm, fun h => absurd (by rw [chk_in hnd, hck, chks_out hc0] at h; exact h) hc0⟩, hK⟩))))))
    ·
     have hc0 : (chk 256 1099511627776 1001 (d + 1) ri l).1 = 0 := by simpa using hc81
     have mg := hmg hc0
     refine wp_skip (hK71 _ _ ?_)
     refine wp_region_lit ?_
     refine hF.v (x_addn (i + 1) (by omega) (by omega) rfl rfl) fun a hF => ?_
     refine hF.v (x_move rfl) fun a hF => ?_
     refine s_end (hK' _ _ (by omega) ⟨(chk 256 1099511627776 1001 (d + 1) ri l).2, Nat.le_trans (chk_le _ _ _ _ _ _) hri, by rw [hck, chks_in hc0], mg, hB, hK, hF.sub _ rfl⟩)
   ·
    refine wp_exit (hK67 _ _ ?_)
    refine wp_rs fun K75 hK75 => ?_
    refine hF.v (x_assign rfl) fun a hF => ?_
    refine s_end (hK75 _ _ ?_)
    have hnil : ls.drop i = [] := List.drop_of_length_le (by omega)
    rw [hnil] at hck
    refine wp_ret (res_slot hF rfl rfl ⟨_, rfl, ⟨bool_of (decide_eq_true (by rw [chk_in hnd, hck]; rfl)).symm, fun _ => by rw [chk_in hnd, hck]; exact mg⟩, hK⟩)

set_option maxRecDepth 100000 in
set_option maxHeartbeats 1600000 in
theorem rSound17 (x : C3) (l : Lv) (w0 : World) (hL : RL w0 x l) : Calls Try.prog 45 #[lv x] w0 fun e w' => e = .returned (.bool (decide (sndL l))) ∧ Below w0.heap.size w0 w' := by
 have hB := Below.refl w0.heap.size w0
 have sB := hB.size
 refine calls_fs 6 [(0, lv x)] Try.func45 rfl rfl rfl rfl rfl fun a hF => ?_
 refine wp_rs fun K1 hK1 => ?_
 refine s_box (lc x) hF (by decide) rfl rfl fun w2 b1 a eb1 m1 B3 zb1 hF => ?_
 have sB3 := B3.size
 have hB := bt hB B3
 refine hF.v (x_assign rfl) fun a hF => ?_
 refine s_end (hK1 _ _ ?_)
 refine wp_rs fun K2 hK2 => ?_
 refine s_alloc1 hF (by decide) zero3 rfl fun w4 b3 a eb3 m3 B5 zb3 hF => ?_
 have sB5 := B5.size
 have hB := bt hB B5
 have m1 := m1.old B5
 refine s_put hF rfl rfl flat3 m3 (by simp) rfl fun w6 m3 o7 => ?_
 have so7 := o7.size
 have hB := hB.trans (o7.below (by omega))
 have m1 := m1.only o7 (by omega)
 refine s_end (hK2 _ _ ?_)
 refine wp_rs fun K3 hK3 => ?_
 refine hF.v (x_ldW wide24 m1 rfl rfl) fun a hF => ?_
 refine s_call (R := fun u w' => (u = .bool (decide ((chk 256 1099511627776 1001 1 1000 l).1 = 0)) ∧ ((chk 256 1099511627776 1001 1 1000 l).1 = 0 → Blk w' b3 3 [.int .i64 (1000 - ((chk 256 1099511627776 1001 1 1000 l).2 : Int))])) ∧ Ktw b3 b3 w6 w') hF [_, _, _] E91 rfl (by decide) (rsound39 w0 b3 (by omega) x l hL 1 1000 w6 (by decide) (by decide) (by decide) hB m3) ?_
 rintro _ w8 a ⟨⟨rfl, _⟩, k9⟩ hF
 have sk9 := k9.size
 have hB := k9.under hB (by omega)
 refine hF.v (x_assign rfl) fun a hF => ?_
 refine s_end (hK3 _ _ ?_)
 refine wp_ret (res_slot hF rfl rfl ⟨rfl, hB⟩)

/-- Its numbers are small. -/
def SL.lit : SL → Prop
 | .num n => n ≤ 1048576
 | .var _ => True
 | .succ n a => n ≤ 1048576 ∧ a.lit
 | .mx a b => a.lit ∧ b.lit
theorem rd_row1 {W : World} {v : Value} {y : C3} (h : Rd W v 3 1 (lc y)) : ∃ b off c, v = .slice (some ⟨b, off, none⟩) 1 c ∧ ∀ W', Below W.heap.size W W' → ∀ j u, (lc y)[j]? = some u → W'.cell? ((⟨b, off + 0 * 3, none⟩ : Addr).add j) = some u := by
 obtain ⟨b, off, c, x, h1, h2, h3⟩ := rd_row3 (xs := [y]) (by simpa using h) (i := 0) (by simp)
 simp at h2
 subst h2
 exact ⟨b, off, c, h1, h3⟩
theorem rd_row2 {W : World} {v : Value} {y z : C3} (h : Rd W v 3 2 (lc y ++ lc z)) : ∃ b off c, v = .slice (some ⟨b, off, none⟩) 2 c ∧ (∀ W', Below W.heap.size W W' → ∀ j u, (lc y)[j]? = some u → W'.cell? ((⟨b, off + 0 * 3, none⟩ : Addr).add j) = some u) ∧ (∀ W', Below W.heap.size W W' → ∀ j u, (lc z)[j]? = some u → W'.cell? ((⟨b, off + 1 * 3, none⟩ : Addr).add j) = some u) := by
 obtain ⟨b, off, c, x, h1, h2, h3⟩ := rd_row3 (xs := [y, z]) (by simpa using h) (i := 0) (by simp)
 obtain ⟨b', off', c', x', h4, h5, h6⟩ := rd_row3 (xs := [y, z]) (by simpa using h) (i := 1) (by simp)
 simp at h2 h5
 subst h2 h5
 rw [h1] at h4
 cases h4
 exact ⟨b, off, c, h1, h3, h6⟩
theorem RS.one1 {W : World} {s : SL} {x : C3} (h : RS W s x) : x.2.2.oneCell' = true := by
 obtain ⟨_, _, h⟩ := h.slice
 exact h.one
/-- A level of the four kinds: its kids as a list. -/
def SL.kids : SL → List SL
 | .num _ => []
 | .var _ => []
 | .succ _ a => [a]
 | .mx a b => [a, b]
theorem RS.kids {W : World} : ∀ {s : SL} {x : C3}, RS W s x → ∃ xs : List C3, Rd W x.2.2 3 xs.length (xs.flatMap lc) ∧ xs.length = s.kids.length ∧ ∀ (i : Nat) y t, xs[i]? = some y → s.kids[i]? = some t → RS W t y
 | .num _, x, h => ⟨[], by simpa using h.2.2, rfl, fun i y t h1 => by simp at h1⟩
 | .var _, x, h => ⟨[], by simpa using h.2.2, rfl, fun i y t h1 => by simp at h1⟩
 | .succ _ a, x, ⟨_, _, y, h1, h2⟩ => ⟨[y], by simpa using h1, rfl, fun i z t e1 e2 => by
  rcases i with _ | i
  ·
   simp [SL.kids] at e1 e2; subst e1 e2; exact h2
  ·
   simp at e1⟩
 | .mx a b, x, ⟨_, y, z, h1, h2, h3⟩ => ⟨[y, z], by simpa using h1, rfl, fun i u t e1 e2 => by
  rcases i with _ | _ | i
  ·
   simp [SL.kids] at e1 e2; subst e1 e2; exact h2
  ·
   simp [SL.kids] at e1 e2; subst e1 e2; exact h3
  ·
   simp at e1⟩
theorem SL.kids_le (s : SL) : s.kids.length ≤ 2 := by cases s <;> simp [SL.kids]
end Go.Proofs.Ytbhhbfdoadecgaa

namespace Go.Proofs.Ytbhhbfdoadecgaa
open Go.RowKit Go.Shelf
set_option linter.unusedVariables false
set_option linter.unusedSimpArgs false

def rho (vs : List Int) (i : Nat) : Int := max 0 (min (vs.getD i 0) 1099511627776)
def val : SL → (Nat → Int) → Int
 | .num n, _ => n
 | .var i, ρ => ρ i
 | .succ n a, ρ => cut (n + val a ρ)
 | .mx a b, ρ => max (val a ρ) (val b ρ)
end Go.Proofs.Ytbhhbfdoadecgaa

namespace Go.Proofs.Ytbhhbfdoadecgaa
open Go.RowKit Go.Shelf
set_option linter.unusedVariables false
set_option linter.unusedSimpArgs false

/-- A form (of type t) that lies in block g; its slice v lies in block o, if it has one. -/
structure FA (t base : Nat) (w : World) (g o : Nat) (v : Value) (c : Int) (ks : List Int) : Prop where
 blk : Blk w g t [.int .i64 c, v]
 own : w.ownsRow base 3 1 v ks.length (ints ks)
 at' : ∀ j, v.ownBlock = some j → j = o
 ne : v.ownBlock ≠ some g
 lo : base ≤ o ∧ base ≤ g ∧ o < w.heap.size
section
variable {t base : Nat} {w w' : World} {g o : Nat} {v : Value} {c : Int} {ks : List Int}
theorem FA.below (h : FA t base w g o v c ks) (hB : Below w.heap.size w w') : FA t base w' g o v c ks := ⟨h.blk.old hB, own_below h.own hB, h.at', h.ne, by have := h.lo; have := hB.size; omega⟩
theorem FA.only {k : Nat} (h : FA t base w g o v c ks) (hO : Only k w w') (hk : k ≠ g ∧ k ≠ o) : FA t base w' g o v c ks := ⟨h.blk.only hO (by omega), own_only h.own hO (fun e => by have := h.at' _ e; omega), h.at', h.ne, by have := h.lo; have := hO.size; omega⟩
theorem FA.k2 {a b : Nat} (h : FA t base w g o v c ks) (hK : Ktw a b w w') (hk : g ≠ a ∧ g ≠ b ∧ o ≠ a ∧ o ≠ b) : FA t base w' g o v c ks := ⟨h.blk.k2 hK (by omega), own_k2 h.own hK (fun c hc => by have := h.at' c hc; omega), h.at', h.ne, by have := h.lo; have := hK.size; omega⟩
theorem FA.form (h : FA t base w g o v c ks) : ∃ a cp, v = .slice a ks.length cp ∧ ks.length ≤ cp := by
 obtain ⟨a, cp, h1, h2, _⟩ := (Rd.own h.own).form
 exact ⟨a, cp, h1, h2⟩
theorem FA.rd (h : FA t base w g o v c ks) : Rd w v 1 ks.length (ints ks) := Rd.own h.own
theorem FA.lt (h : FA t base w g o v c ks) : g < w.heap.size := h.blk.lt
theorem FA.start (hB : Blk w g t [.int .i64 c, .slice none 0 0]) (hb : base ≤ g) : FA t base w g g (.slice none 0 0) c [] :=
 ⟨hB, World.ownsRow_nil _ _ _ _, (fun j h => by cases h), (fun h => by cases h), ⟨hb, hb, hB.lt⟩⟩
end
theorem ints_app (ks : List Int) (z : Int) : ints (ks ++ [z]) = ints ks ++ [.int .i64 z] := by simp
theorem ints_set (ks : List Int) (i : Nat) (z : Int) : ints (ks.set i z) = (ints ks).set i (.int .i64 z) := List.map_set
theorem rc_bd {s : SL} {n c : Int} (hn : 0 ≤ n) (h1 : n ≤ 1099511627776) (hc : 0 ≤ c) (h2 : c ≤ 1099511627776) : 0 ≤ rc s n c ∧ rc s n c ≤ 1099511627776 := by
 rw [rc_eq s n c hn (by omega)]
 have := cf_hi s n h1
 omega
end Go.Proofs.Ytbhhbfdoadecgaa
