/- check, May, isSound; the reference's may, May, sound, Sound. -/
import Derived.Test.YtbhhbfdoadecgaaLev1
namespace Go.Proofs.Ytbhhbfdoadecgaa
set_option maxRecDepth 100000
set_option maxHeartbeats 1600000
open Go.RowKit Go.Shelf
set_option linter.unusedVariables false
set_option linter.unusedSimpArgs false
theorem chk_two {D top vars d : Int} {r : Nat} {k n : Int} {ls : List Lv} (h : D < d ∨ r = 0) : (chk D top vars d r (.mk k n ls)).1 = 2 := by
 have e : nodeE D top vars d r k n ls.length = 2 := by rw [nodeE, if_pos h]
 rw [chk_out (by rw [e]; decide), e]
theorem chk_one {D top vars d : Int} {r : Nat} {k n : Int} {ls : List Lv} (h : ¬ (D < d ∨ r = 0)) (h1 : kidsB k ls.length = false ∨ numB top k n = false) : (chk D top vars d r (.mk k n ls)).1 = 1 := by
 have e : nodeE D top vars d r k n ls.length = 1 := by rw [nodeE, if_neg h, if_pos h1]
 rw [chk_out (by rw [e]; decide), e]
theorem chk_ten {D top vars d : Int} {r : Nat} {k n : Int} {ls : List Lv} (h : ¬ (D < d ∨ r = 0)) (h1 : kidsB k ls.length = true) (h2 : numB top k n = true) (h3 : k = 2 ∧ (n < 0 ∨ vars ≤ n)) : (chk D top vars d r (.mk k n ls)).1 = 10 := by
 have e : nodeE D top vars d r k n ls.length = 10 := by rw [nodeE, if_neg h, if_neg (by rw [h1, h2]; simp), if_pos h3]
 rw [chk_out (by rw [e]; decide), e]
theorem RL.one1 {W : World} {x : C3} {l : Lv} (h : RL W x l) : x.2.2.oneCell' = true := by
 obtain ⟨_, _, h⟩ := h.slice
 exact h.one
theorem drop_at {α : Type} {ls : List α} {i : Nat} {l : α} (h : ls[i]? = some l) : ls.drop i = l :: ls.drop (i + 1) := by
 obtain ⟨hi, rfl⟩ := List.getElem?_eq_some_iff.1 h
 exact List.drop_eq_getElem_cons hi
theorem arI_kids {k : Int} {len : Nat} : kidsB k len = true ↔ 0 ≤ arI k ∧ (len : Int) = arI k := by
 rw [kidsB_iff]
 unfold arI
 split
 ·
  omega
 ·
  split
  ·
   omega
  ·
   split
   ·
    omega
   ·
    omega
theorem arI_no {k : Int} {len : Nat} (h : arI k < 0 ∨ (len : Int) ≠ arI k) : kidsB k len = false := Bool.eq_false_iff.2 fun h1 => by have := arI_kids.1 h1; omega
theorem numB_no {top k n : Int} (h : ¬ ((k = 1 → 0 ≤ n ∧ n ≤ top) ∧ (k = 3 → 1 ≤ n ∧ n ≤ top))) : numB top k n = false := Bool.eq_false_iff.2 fun h1 => h (numB_iff.1 h1)
theorem kids_le {k : Int} {len : Nat} (h : kidsB k len = true) : len ≤ 2 := by
 have := kidsB_iff.1 h
 omega
theorem int_of {x y : Int} (h : x = y) : Value.int .i64 x = Value.int .i64 y := by rw [h]
theorem check34 (D top vars : Int) (hD : D ≤ 256) (w0 : World) (g : Nat) (hg : w0.heap.size ≤ g) : ∀ (x : C3) (l : Lv), RL w0 x l → ∀ (d : Int) (r : Nat) (w1 : World), 1 ≤ d → d ≤ 300 → r ≤ 1000 → Below w0.heap.size w0 w1 → Blk w1 g 165 [.int .i64 D, .int .i64 (r : Int), .int .i64 top, .int .i64 vars] →
    Calls Try.prog 153 #[lv x, .int .i64 d, .pointer (some ⟨g, 0, none⟩)] w1 fun e w' => ∃ v, e = .returned v ∧ (v = .int .i64 (chk D top vars d r l).1 ∧ ((chk D top vars d r l).1 = 0 → Blk w' g 165 [.int .i64 D, .int .i64 ((chk D top vars d r l).2 : Int), .int .i64 top, .int .i64 vars])) ∧ Ktw g g w1 w' := by
  intro x l h
  induction h with
  | @mk k n v xs ls hR hl hk hbd9 ih =>
  intro d r w1 hd1 hd2 hr hB mg
  obtain ⟨av, cv, rfl, _⟩ := hR.form
  have hK := Ktw.refl g g w1
  have sB := hB.size
  have hgl := mg.lt
  refine calls_fs 75 [(0, .agg [.int .i64 k, .int .i64 n, .slice av xs.length cv].toArray), (1, .int .i64 d), (2, .pointer (some ⟨g, 0, none⟩))] Try.func153 rfl rfl rfl rfl rfl fun a F => ?_
  refine wp_rs fun _ K1 => ?_
  refine s_box ([.int .i64 k, .int .i64 n, .slice av xs.length cv]) F (by decide) rfl rfl fun w2 b3 a eb3 m3 B3 zb3 F => ?_
  have sB3 := B3.size
  have hB := bt hB B3
  have hK := hK.below B3
  have mg := mg.old B3
  refine F.sg rfl fun a F => ?_
  refine s_end (K1 _ _ ?_)
  refine wp_seq_k fun _ K2 => ?_
  rcases (show D < d ∨ (d ≤ D ∧ r = 0) ∨ (d ≤ D ∧ r ≠ 0) by omega) with hp | hp | hp
  · skip
    refine wp_rs fun _ K4 => F.mv rfl fun a F => F.mv rfl fun a F => F.vl (x_nil rfl) fun a F => F.vl (x_fa0 fa54_0 rfl) fun a F => F.ld mg flat3 rfl rfl fun a F => F.vl (gtrT (by omega) rfl rfl) fun a F => F.mv rfl fun a F => s_grdn 16 F rfl rfl (by decide) fun a F => s_grdn 16 F rfl rfl (by decide) fun a F => s_grdn 16 F rfl rfl (by decide) fun a F => s_grdn 16 F rfl rfl (by decide) fun a F => s_grdn 16 F rfl rfl (by decide) fun a F => F.vl (x_pick (b := true) rfl rfl) fun a F => ?_
    refine s_end (K4 _ _ ?_)
    refine wp_if F rfl ?_
    refine wp_rs fun _ K5 => F.sg rfl fun a F => ?_
    refine s_end (K5 _ _ ?_)
    refine wp_ret (then_ret (res_slot F rfl rfl ⟨_, rfl, ⟨int_of (chk_two (by omega)).symm, fun h => absurd ((chk_two (by omega)).symm.trans h) (by decide)⟩, hK⟩))
  · skip
    refine wp_rs fun _ K6 => F.mv rfl fun a F => F.mv rfl fun a F => F.vl (x_nil rfl) fun a F => F.vl (x_fa0 fa54_0 rfl) fun a F => F.ld mg flat3 rfl rfl fun a F => F.vl (gtrF (by omega) rfl rfl) fun a F => F.mv rfl fun a F => s_grd 16 F rfl rfl rfl <| F.mv rfl fun a F => s_grd 16 F rfl rfl rfl <| F.vl (x_nil rfl) fun a F => s_grd 16 F rfl rfl rfl <| F.vl (x_fa0 fa54_1 rfl) fun a F => s_grd 16 F rfl rfl rfl <| F.ld mg flat3 rfl rfl fun a F => s_grd 16 F rfl rfl rfl <| F.vl (eqlT (by omega) rfl rfl) fun a F => F.vl (x_pick (b := false) rfl rfl) fun a F => ?_
    refine s_end (K6 _ _ ?_)
    refine wp_if F rfl ?_
    refine wp_rs fun _ K7 => F.sg rfl fun a F => ?_
    refine s_end (K7 _ _ ?_)
    refine wp_ret (then_ret (res_slot F rfl rfl ⟨_, rfl, ⟨int_of (chk_two (by omega)).symm, fun h => absurd ((chk_two (by omega)).symm.trans h) (by decide)⟩, hK⟩))
  · skip
    refine wp_rs fun _ K8 => F.mv rfl fun a F => F.mv rfl fun a F => F.vl (x_nil rfl) fun a F => F.vl (x_fa0 fa54_0 rfl) fun a F => F.ld mg flat3 rfl rfl fun a F => F.vl (gtrF (by omega) rfl rfl) fun a F => F.mv rfl fun a F => s_grd 16 F rfl rfl rfl <| F.mv rfl fun a F => s_grd 16 F rfl rfl rfl <| F.vl (x_nil rfl) fun a F => s_grd 16 F rfl rfl rfl <| F.vl (x_fa0 fa54_1 rfl) fun a F => s_grd 16 F rfl rfl rfl <| F.ld mg flat3 rfl rfl fun a F => s_grd 16 F rfl rfl rfl <| F.vl (eqlF (by omega) rfl rfl) fun a F => F.vl (x_pick (b := false) rfl rfl) fun a F => ?_
    refine s_end (K8 _ _ ?_)
    refine wp_if F rfl ?_
    refine wp_skip (K2 _ _ ?_)
    refine wp_rs fun _ K9 => F.mv rfl fun a F => F.vl (x_nil rfl) fun a F => F.vl (x_fa0 fa54_1 rfl) fun a F => F.ld mg flat3 rfl rfl fun a F => F.vl (x_subn (r - 1) (by omega) (by omega) rfl rfl) fun a F => F.vl (x_nil rfl) fun a F => F.vl (x_fa0 fa54_1 rfl) fun a F => ?_
    refine s_put F rfl rfl flat3 mg (by first | (simp; done) | (show _ < 3; decide)) rfl fun w4 mg o5 => ?_
    have so5 := o5.size
    have hB := hB.trans (o5.below (by omega))
    have hK := hK.only o5 (by omega)
    have m3 := m3.only o5 (by omega)
    refine s_end (K9 _ _ ?_)
    refine wp_seq_k fun _ K10 => ?_
    rcases (show kidsB k xs.length = false ∨ (kidsB k xs.length = true ∧ numB top k n = false) ∨ (kidsB k xs.length = true ∧ numB top k n = true) by cases kidsB k xs.length <;> cases numB top k n <;> simp) with hkb | ⟨hkb, hnb⟩ | ⟨hkb, hnb⟩
    · have hq : kidsB k ls.length = false ∨ numB top k n = false := .inl (by rw [← hl]; exact hkb)
      refine dk2_seq (w4.heap.size) (w4.heap.size) (ops := regOps Try.f153 4) (N := 12) (by kernel_rfl) wide_orders (by kernel_rfl) fun w6 hw6 B7 hS K12 K12 => ?_
      have zw6 : w6.heap.size = w4.heap.size := by rw [hw6]
      have sB7 := B7.size
      have hB := bt hB B7
      have hK := hK.below B7
      have mg := mg.old B7
      have m3 := m3.old B7
      have mg_d := mg
      have m3_d := m3
      have hB_d := hB
      have hK_d := hK
      refine F.dv 0 30 (.load 24 (.tmp 3)) hS (fun W hW => x_ldW wide24 (m3_d.k2 hW (by omega)) rfl rfl) fun a F => ?_
      refine d1 1 (some 31) (.call (.mk (.value (.func 162)) #[(.tmp 30)] #[24])) fun ty pos af => ?_
      refine s_callB [_] F E162 rfl (by decide) (hasKids56 k n _ _ _ w6 (hR.below hB)) fun w8 a B9 F => ?_
      have sB9 := B9.size
      have hK := hK.below B9
      have hS := hS.below B9
      rw [hkb] at F
      refine s_end ⟨hS, ?_⟩
      refine F.dv 2 32 (.unOp .not 4 (.tmp 31)) hS (fun W hW => x_not rfl) fun a F => F.dv 3 33 (.move (.tmp 32)) hS (fun W hW => x_move rfl) fun a F => d_skip 4 34 33 (j := 3) (want := false) (op := (.load 24 (.tmp 3))) F hS (by kernel_rfl) (by kernel_rfl) rfl (by kernel_rfl) (by decide) fun a F => d_skip 5 35 33 (j := 3) (want := false) (op := (.move (.tmp 2))) F hS (by kernel_rfl) (by kernel_rfl) rfl (by kernel_rfl) (by decide) fun a F => d_skip 6 36 33 (j := 3) (want := false) (op := (.nilCheck (.tmp 35))) F hS (by kernel_rfl) (by kernel_rfl) rfl (by kernel_rfl) (by decide) fun a F => d_skip 7 37 33 (j := 3) (want := false) (op := (.fieldAddr 165 (.tmp 36) 2)) F hS (by kernel_rfl) (by kernel_rfl) rfl (by kernel_rfl) (by decide) fun a F => d_skip 8 38 33 (j := 3) (want := false) (op := (.load 3 (.tmp 37))) F hS (by kernel_rfl) (by kernel_rfl) rfl (by kernel_rfl) (by decide) fun a F => d_skip 9 39 33 (j := 3) (want := false) (op := (.call (.mk (.value (.func 163)) #[(.tmp 34), (.tmp 38)] #[24, 3]))) F hS (by kernel_rfl) (by kernel_rfl) rfl (by kernel_rfl) (by decide) fun a F => d_skip 10 40 33 (j := 3) (want := false) (op := (.unOp .not 4 (.tmp 39))) F hS (by kernel_rfl) (by kernel_rfl) rfl (by kernel_rfl) (by decide) fun a F => F.dv 11 41 (.pick (.tmp 33) (.const (.bool true)) (.tmp 40)) hS (fun W hW => x_pick (b := true) rfl rfl) fun a F => ?_
      refine d_end (by kernel_rfl) (K12 _ _ ?_)
      refine wp_if F rfl ?_
      refine wp_rs fun _ K13 => F.sg rfl fun a F => ?_
      refine s_end (K13 _ _ ?_)
      refine wp_ret (then_ret (res_slot F rfl rfl ⟨_, rfl, ⟨int_of (chk_one (by omega) hq).symm, fun h => absurd ((chk_one (by omega) hq).symm.trans h) (by decide)⟩, hK⟩))
    · have hq : kidsB k ls.length = false ∨ numB top k n = false := .inr hnb
      refine dk2_seq (w4.heap.size) (w4.heap.size) (ops := regOps Try.f153 4) (N := 12) (by kernel_rfl) wide_orders (by kernel_rfl) fun w10 hw10 B11 hS K14 hK14 => ?_
      have zw10 : w10.heap.size = w4.heap.size := by rw [hw10]
      have sB11 := B11.size
      have hB := bt hB B11
      have hK := hK.below B11
      have mg := mg.old B11
      have m3 := m3.old B11
      have mg_d := mg
      have m3_d := m3
      have hB_d := hB
      have hK_d := hK
      refine F.dv 0 30 (.load 24 (.tmp 3)) hS (fun W hW => x_ldW wide24 (m3_d.k2 hW (by omega)) rfl rfl) fun a F => ?_
      refine d1 1 (some 31) (.call (.mk (.value (.func 162)) #[(.tmp 30)] #[24])) fun ty pos af => ?_
      refine s_callB [_] F E162 rfl (by decide) (hasKids56 k n _ _ _ w10 (hR.below hB)) fun w12 a B13 F => ?_
      have sB13 := B13.size
      have hK := hK.below B13
      have hS := hS.below B13
      rw [hkb] at F
      refine s_end ⟨hS, ?_⟩
      refine F.dv 2 32 (.unOp .not 4 (.tmp 31)) hS (fun W hW => x_not rfl) fun a F => F.dv 3 33 (.move (.tmp 32)) hS (fun W hW => x_move rfl) fun a F => F.dg 4 34 33 3 false (.load 24 (.tmp 3)) hS rfl (fun W hW => x_ldW wide24 (m3_d.k2 hW (by omega)) rfl rfl) fun a F => F.dg 5 35 33 3 false (.move (.tmp 2)) hS rfl (fun W hW => x_move rfl) fun a F => F.dg 6 36 33 3 false (.nilCheck (.tmp 35)) hS rfl (fun W hW => x_nil rfl) fun a F => F.dg 7 37 33 3 false (.fieldAddr 165 (.tmp 36) 2) hS rfl (fun W hW => x_fa0 fa54_2 rfl) fun a F => F.dg 8 38 33 3 false (.load 3 (.tmp 37)) hS rfl (fun W hW => x_load rfl (m_load flat3 ((mg_d.k2 hW (by omega)).cell (j := 2) rfl))) fun a F => ?_
      refine d_oneg 9 33 (some 39) (.call (.mk (.value (.func 163)) #[(.tmp 34), (.tmp 38)] #[24, 3])) (j := 3) (want := false) F (by kernel_rfl) (by kernel_rfl) (by kernel_rfl) rfl fun ty pos af => ?_
      refine s_callB [_, _] F E163 rfl (by decide) (hasNumber57 k n top _ w12) fun w14 a B15 F => ?_
      have sB15 := B15.size
      have hK := hK.below B15
      have hS := hS.below B15
      rw [hnb] at F
      refine s_end ⟨hS, ?_⟩
      refine F.dg 10 40 33 3 false (.unOp .not 4 (.tmp 39)) hS rfl (fun W hW => x_not rfl) fun a F => F.dv 11 41 (.pick (.tmp 33) (.const (.bool true)) (.tmp 40)) hS (fun W hW => x_pick (b := false) rfl rfl) fun a F => ?_
      refine d_end (by kernel_rfl) (hK14 _ _ ?_)
      refine wp_if F rfl ?_
      refine wp_rs fun _ K15 => F.sg rfl fun a F => ?_
      refine s_end (K15 _ _ ?_)
      refine wp_ret (then_ret (res_slot F rfl rfl ⟨_, rfl, ⟨int_of (chk_one (by omega) hq).symm, fun h => absurd ((chk_one (by omega) hq).symm.trans h) (by decide)⟩, hK⟩))
    · have hkl : kidsB k ls.length = true := by rw [← hl]; exact hkb
      refine dk2_seq (w4.heap.size) (w4.heap.size) (ops := regOps Try.f153 4) (N := 12) (by kernel_rfl) wide_orders (by kernel_rfl) fun w16 hw16 B17 hS K16 K16 => ?_
      have zw16 : w16.heap.size = w4.heap.size := by rw [hw16]
      have sB17 := B17.size
      have hB := bt hB B17
      have hK := hK.below B17
      have mg := mg.old B17
      have m3 := m3.old B17
      have mg_d := mg
      have m3_d := m3
      have hB_d := hB
      have hK_d := hK
      refine F.dv 0 30 (.load 24 (.tmp 3)) hS (fun W hW => x_ldW wide24 (m3_d.k2 hW (by omega)) rfl rfl) fun a F => ?_
      refine d1 1 (some 31) (.call (.mk (.value (.func 162)) #[(.tmp 30)] #[24])) fun ty pos af => ?_
      refine s_callB [_] F E162 rfl (by decide) (hasKids56 k n _ _ _ w16 (hR.below hB)) fun w18 a B19 F => ?_
      have sB19 := B19.size
      have hB := bt hB B19
      have hK := hK.below B19
      have mg := mg.old B19
      have m3 := m3.old B19
      have hS := hS.below B19
      rw [hkb] at F
      refine s_end ⟨hS, ?_⟩
      refine F.dv 2 32 (.unOp .not 4 (.tmp 31)) hS (fun W hW => x_not rfl) fun a F => F.dv 3 33 (.move (.tmp 32)) hS (fun W hW => x_move rfl) fun a F => F.dg 4 34 33 3 false (.load 24 (.tmp 3)) hS rfl (fun W hW => x_ldW wide24 (m3_d.k2 hW (by omega)) rfl rfl) fun a F => F.dg 5 35 33 3 false (.move (.tmp 2)) hS rfl (fun W hW => x_move rfl) fun a F => F.dg 6 36 33 3 false (.nilCheck (.tmp 35)) hS rfl (fun W hW => x_nil rfl) fun a F => F.dg 7 37 33 3 false (.fieldAddr 165 (.tmp 36) 2) hS rfl (fun W hW => x_fa0 fa54_2 rfl) fun a F => F.dg 8 38 33 3 false (.load 3 (.tmp 37)) hS rfl (fun W hW => x_load rfl (m_load flat3 ((mg_d.k2 hW (by omega)).cell (j := 2) rfl))) fun a F => ?_
      refine d_oneg 9 33 (some 39) (.call (.mk (.value (.func 163)) #[(.tmp 34), (.tmp 38)] #[24, 3])) (j := 3) (want := false) F (by kernel_rfl) (by kernel_rfl) (by kernel_rfl) rfl fun ty pos af => ?_
      refine s_callB [_, _] F E163 rfl (by decide) (hasNumber57 k n top _ w18) fun w20 a B21 F => ?_
      have sB21 := B21.size
      have hB := bt hB B21
      have hK := hK.below B21
      have mg := mg.old B21
      have m3 := m3.old B21
      have hS := hS.below B21
      rw [hnb] at F
      refine s_end ⟨hS, ?_⟩
      refine F.dg 10 40 33 3 false (.unOp .not 4 (.tmp 39)) hS rfl (fun W hW => x_not rfl) fun a F => F.dv 11 41 (.pick (.tmp 33) (.const (.bool true)) (.tmp 40)) hS (fun W hW => x_pick (b := false) rfl rfl) fun a F => ?_
      refine d_end (by kernel_rfl) (K16 _ _ ?_)
      refine wp_if F rfl ?_
      refine wp_skip (K10 _ _ ?_)
      refine wp_seq_k fun _ K17 => ?_
      rcases (show (k = 2 ∧ n < 0) ∨ (k = 2 ∧ 0 ≤ n ∧ vars ≤ n) ∨ (k = 2 ∧ 0 ≤ n ∧ n < vars) ∨ k ≠ 2 by omega) with hv | hv | hv | hv
      · skip
        refine dk2_seq (w20.heap.size) (w20.heap.size) (ops := regOps Try.f153 6) (N := 17) (by kernel_rfl) wide_orders (by kernel_rfl) fun w22 hw22 B23 hS K19 K19 => ?_
        have zw22 : w22.heap.size = w20.heap.size := by rw [hw22]
        have sB23 := B23.size
        have hB := bt hB B23
        have hK := hK.below B23
        have mg := mg.old B23
        have m3 := m3.old B23
        have mg_d := mg
        have m3_d := m3
        have hB_d := hB
        have hK_d := hK
        refine F.dv 0 42 (.fieldAddr 24 (.tmp 3) 0) hS (fun W hW => x_fa0 fa24_0 rfl) fun a F => F.dv 1 43 (.load 3 (.tmp 42)) hS (fun W hW => x_load rfl (m_load flat3 ((m3_d.k2 hW (by omega)).cell (j := 0) rfl))) fun a F => F.dv 2 44 (.binOp .eql 3 (.tmp 43) (.const (.int .i64 2)) 3) hS (fun W hW => eqlT (by omega) rfl rfl) fun a F => F.dv 3 45 (.move (.tmp 44)) hS (fun W hW => x_move rfl) fun a F => F.dg 4 46 45 3 true (.fieldAddr 24 (.tmp 3) 1) hS rfl (fun W hW => x_fa0 fa24_1 rfl) fun a F => F.dg 5 47 45 3 true (.load 3 (.tmp 46)) hS rfl (fun W hW => x_load rfl (m_load flat3 ((m3_d.k2 hW (by omega)).cell (j := 1) rfl))) fun a F => F.dg 6 48 45 3 true (.binOp .lss 3 (.tmp 47) (.const (.int .i64 0)) 3) hS rfl (fun W hW => lssT (by omega) rfl rfl) fun a F => F.dg 7 49 45 3 true (.move (.tmp 48)) hS rfl (fun W hW => x_move rfl) fun a F => d_skip 8 50 49 (j := 7) (want := false) (op := (.fieldAddr 24 (.tmp 3) 1)) F hS (by kernel_rfl) (by kernel_rfl) rfl (by kernel_rfl) (by decide) fun a F => d_skip 9 51 49 (j := 7) (want := false) (op := (.load 3 (.tmp 50))) F hS (by kernel_rfl) (by kernel_rfl) rfl (by kernel_rfl) (by decide) fun a F => d_skip 10 52 49 (j := 7) (want := false) (op := (.move (.tmp 2))) F hS (by kernel_rfl) (by kernel_rfl) rfl (by kernel_rfl) (by decide) fun a F => d_skip 11 53 49 (j := 7) (want := false) (op := (.nilCheck (.tmp 52))) F hS (by kernel_rfl) (by kernel_rfl) rfl (by kernel_rfl) (by decide) fun a F => d_skip 12 54 49 (j := 7) (want := false) (op := (.fieldAddr 165 (.tmp 53) 3)) F hS (by kernel_rfl) (by kernel_rfl) rfl (by kernel_rfl) (by decide) fun a F => d_skip 13 55 49 (j := 7) (want := false) (op := (.load 3 (.tmp 54))) F hS (by kernel_rfl) (by kernel_rfl) rfl (by kernel_rfl) (by decide) fun a F => d_skip 14 56 49 (j := 7) (want := false) (op := (.binOp .geq 3 (.tmp 51) (.tmp 55) 3)) F hS (by kernel_rfl) (by kernel_rfl) rfl (by kernel_rfl) (by decide) fun a F => F.dg 15 57 45 3 true (.pick (.tmp 49) (.const (.bool true)) (.tmp 56)) hS rfl (fun W hW => x_pick (b := true) rfl rfl) fun a F => F.dv 16 58 (.pick (.tmp 45) (.tmp 57) (.const (.bool false))) hS (fun W hW => x_pick (b := true) rfl rfl) fun a F => ?_
        refine d_end (by kernel_rfl) (K19 _ _ ?_)
        refine wp_if F rfl ?_
        refine wp_rs fun _ K20 => F.sg rfl fun a F => ?_
        refine s_end (K20 _ _ ?_)
        refine wp_ret (then_ret (res_slot F rfl rfl ⟨_, rfl, ⟨int_of (chk_ten (by omega) hkl hnb (by omega)).symm, fun h => absurd ((chk_ten (by omega) hkl hnb (by omega)).symm.trans h) (by decide)⟩, hK⟩))
      · skip
        refine dk2_seq (w20.heap.size) (w20.heap.size) (ops := regOps Try.f153 6) (N := 17) (by kernel_rfl) wide_orders (by kernel_rfl) fun w24 hw24 B25 hS K21 hK21 => ?_
        have zw24 : w24.heap.size = w20.heap.size := by rw [hw24]
        have sB25 := B25.size
        have hB := bt hB B25
        have hK := hK.below B25
        have mg := mg.old B25
        have m3 := m3.old B25
        have mg_d := mg
        have m3_d := m3
        have hB_d := hB
        have hK_d := hK
        refine F.dv 0 42 (.fieldAddr 24 (.tmp 3) 0) hS (fun W hW => x_fa0 fa24_0 rfl) fun a F => F.dv 1 43 (.load 3 (.tmp 42)) hS (fun W hW => x_load rfl (m_load flat3 ((m3_d.k2 hW (by omega)).cell (j := 0) rfl))) fun a F => F.dv 2 44 (.binOp .eql 3 (.tmp 43) (.const (.int .i64 2)) 3) hS (fun W hW => eqlT (by omega) rfl rfl) fun a F => F.dv 3 45 (.move (.tmp 44)) hS (fun W hW => x_move rfl) fun a F => F.dg 4 46 45 3 true (.fieldAddr 24 (.tmp 3) 1) hS rfl (fun W hW => x_fa0 fa24_1 rfl) fun a F => F.dg 5 47 45 3 true (.load 3 (.tmp 46)) hS rfl (fun W hW => x_load rfl (m_load flat3 ((m3_d.k2 hW (by omega)).cell (j := 1) rfl))) fun a F => F.dg 6 48 45 3 true (.binOp .lss 3 (.tmp 47) (.const (.int .i64 0)) 3) hS rfl (fun W hW => lssF (by omega) rfl rfl) fun a F => F.dg 7 49 45 3 true (.move (.tmp 48)) hS rfl (fun W hW => x_move rfl) fun a F => F.dg 8 50 49 7 false (.fieldAddr 24 (.tmp 3) 1) hS rfl (fun W hW => x_fa0 fa24_1 rfl) fun a F => F.dg 9 51 49 7 false (.load 3 (.tmp 50)) hS rfl (fun W hW => x_load rfl (m_load flat3 ((m3_d.k2 hW (by omega)).cell (j := 1) rfl))) fun a F => F.dg 10 52 49 7 false (.move (.tmp 2)) hS rfl (fun W hW => x_move rfl) fun a F => F.dg 11 53 49 7 false (.nilCheck (.tmp 52)) hS rfl (fun W hW => x_nil rfl) fun a F => F.dg 12 54 49 7 false (.fieldAddr 165 (.tmp 53) 3) hS rfl (fun W hW => x_fa0 fa54_3 rfl) fun a F => F.dg 13 55 49 7 false (.load 3 (.tmp 54)) hS rfl (fun W hW => x_load rfl (m_load flat3 ((mg_d.k2 hW (by omega)).cell (j := 3) rfl))) fun a F => F.dg 14 56 49 7 false (.binOp .geq 3 (.tmp 51) (.tmp 55) 3) hS rfl (fun W hW => geqT (by omega) rfl rfl) fun a F => F.dg 15 57 45 3 true (.pick (.tmp 49) (.const (.bool true)) (.tmp 56)) hS rfl (fun W hW => x_pick (b := false) rfl rfl) fun a F => F.dv 16 58 (.pick (.tmp 45) (.tmp 57) (.const (.bool false))) hS (fun W hW => x_pick (b := true) rfl rfl) fun a F => ?_
        refine d_end (by kernel_rfl) (hK21 _ _ ?_)
        refine wp_if F rfl ?_
        refine wp_rs fun _ K22 => F.sg rfl fun a F => ?_
        refine s_end (K22 _ _ ?_)
        refine wp_ret (then_ret (res_slot F rfl rfl ⟨_, rfl, ⟨int_of (chk_ten (by omega) hkl hnb (by omega)).symm, fun h => absurd ((chk_ten (by omega) hkl hnb (by omega)).symm.trans h) (by decide)⟩, hK⟩))
      · have hnd := nodeE_iff.2 ⟨hp.1, hp.2, hkl, hnb, (by omega : ¬ (k = 2 ∧ (n < 0 ∨ vars ≤ n)))⟩
        refine dk2_seq (w20.heap.size) (w20.heap.size) (ops := regOps Try.f153 6) (N := 17) (by kernel_rfl) wide_orders (by kernel_rfl) fun w26 hw26 B27 hS K23 hK23 => ?_
        have zw26 : w26.heap.size = w20.heap.size := by rw [hw26]
        have sB27 := B27.size
        have hB := bt hB B27
        have hK := hK.below B27
        have mg := mg.old B27
        have m3 := m3.old B27
        have mg_d := mg
        have m3_d := m3
        have hB_d := hB
        have hK_d := hK
        refine F.dv 0 42 (.fieldAddr 24 (.tmp 3) 0) hS (fun W hW => x_fa0 fa24_0 rfl) fun a F => F.dv 1 43 (.load 3 (.tmp 42)) hS (fun W hW => x_load rfl (m_load flat3 ((m3_d.k2 hW (by omega)).cell (j := 0) rfl))) fun a F => F.dv 2 44 (.binOp .eql 3 (.tmp 43) (.const (.int .i64 2)) 3) hS (fun W hW => eqlT (by omega) rfl rfl) fun a F => F.dv 3 45 (.move (.tmp 44)) hS (fun W hW => x_move rfl) fun a F => F.dg 4 46 45 3 true (.fieldAddr 24 (.tmp 3) 1) hS rfl (fun W hW => x_fa0 fa24_1 rfl) fun a F => F.dg 5 47 45 3 true (.load 3 (.tmp 46)) hS rfl (fun W hW => x_load rfl (m_load flat3 ((m3_d.k2 hW (by omega)).cell (j := 1) rfl))) fun a F => F.dg 6 48 45 3 true (.binOp .lss 3 (.tmp 47) (.const (.int .i64 0)) 3) hS rfl (fun W hW => lssF (by omega) rfl rfl) fun a F => F.dg 7 49 45 3 true (.move (.tmp 48)) hS rfl (fun W hW => x_move rfl) fun a F => F.dg 8 50 49 7 false (.fieldAddr 24 (.tmp 3) 1) hS rfl (fun W hW => x_fa0 fa24_1 rfl) fun a F => F.dg 9 51 49 7 false (.load 3 (.tmp 50)) hS rfl (fun W hW => x_load rfl (m_load flat3 ((m3_d.k2 hW (by omega)).cell (j := 1) rfl))) fun a F => F.dg 10 52 49 7 false (.move (.tmp 2)) hS rfl (fun W hW => x_move rfl) fun a F => F.dg 11 53 49 7 false (.nilCheck (.tmp 52)) hS rfl (fun W hW => x_nil rfl) fun a F => F.dg 12 54 49 7 false (.fieldAddr 165 (.tmp 53) 3) hS rfl (fun W hW => x_fa0 fa54_3 rfl) fun a F => F.dg 13 55 49 7 false (.load 3 (.tmp 54)) hS rfl (fun W hW => x_load rfl (m_load flat3 ((mg_d.k2 hW (by omega)).cell (j := 3) rfl))) fun a F => F.dg 14 56 49 7 false (.binOp .geq 3 (.tmp 51) (.tmp 55) 3) hS rfl (fun W hW => geqF (by omega) rfl rfl) fun a F => F.dg 15 57 45 3 true (.pick (.tmp 49) (.const (.bool true)) (.tmp 56)) hS rfl (fun W hW => x_pick (b := false) rfl rfl) fun a F => F.dv 16 58 (.pick (.tmp 45) (.tmp 57) (.const (.bool false))) hS (fun W hW => x_pick (b := true) rfl rfl) fun a F => ?_
        refine d_end (by kernel_rfl) (hK23 _ _ ?_)
        refine wp_if F rfl ?_
        refine wp_skip (K17 _ _ ?_)
        refine wp_seq_k fun _ K24 => ?_
        refine wp_rs fun _ K25 => F.vl (x_fa0 fa24_2 rfl) fun a F => F.ld m3 flat22 rfl rfl fun a F => F.vl (x_len Try.underlying22 rfl) fun a F => F.mv rfl fun a F => ?_
        refine s_end (K25 _ _ ?_)
        refine wp_block ?_
        refine wp_up xs.length (fun i a w => ∃ ri : Nat, ri ≤ 1000 ∧ chks D top vars (d + 1) (r - 1) ls = chks D top vars (d + 1) ri (ls.drop i) ∧ Blk w g 165 [.int .i64 D, .int .i64 (ri : Int), .int .i64 top, .int .i64 vars] ∧ Below w0.heap.size w0 w ∧ Ktw g g w1 w ∧ Fs 75 a [(62, .int .i64 (i : Int)), (61, .int .i64 (xs.length : Int)), (60, .slice av xs.length cv), (1, .int .i64 d), (2, .pointer (some ⟨g, 0, none⟩))]) ⟨r - 1, by omega, rfl, mg, hB, hK, F.sub _ rfl⟩ ?_
        clear F hB hK mg
        rintro i a w hi ⟨ri, hri, hck, mg, hB, hK, F⟩ K' hK'
        have sB := hB.size
        have hgl := mg.lt
        have sK := hK.size
        have hle := kids_le hkl
        refine wp_rs fun _ K26 => F.vl (x_lss rfl rfl rfl) fun a F => ?_
        refine s_end (K26 _ _ ?_)
        refine wp_seq_k fun _ K27 => ?_
        refine wp_iff F rfl (fun hc63 => ?_) (fun hc63 => ?_)
        · obtain ⟨b, off, c, y, hve, hy, hrow⟩ := rd_row3 hR (i := i) (by omega)
          cases hve
          obtain ⟨l, hlk⟩ : ∃ l, ls[i]? = some l := ⟨_, List.getElem?_eq_getElem (by omega)⟩
          have ihy := ih i y l hy hlk
          have h1y := (hk i y l hy hlk).one1
          rw [drop_at hlk] at hck
          refine wp_skip (K27 _ _ ?_)
          refine wp_seq_k fun _ K28 => ?_
          refine wp_block ?_
          refine wp_rs fun _ K29 => F.vl (x_ixa rfl rfl (m_ixsK i Try.underlying22 el22.size rfl (by omega))) fun a F => F.vl (x_ldA wide24 (hrow _ hB) rfl rfl) fun a F => ?_
          refine s_alloc F (by decide) zero24 fun w28 b8 a eb8 m8 B29 zb8 F => ?_
          have sB29 := B29.size
          have hB := bt hB B29
          have hK := hK.below B29
          have mg := mg.old B29
          refine s_putW F rfl rfl (size_wide wide24) m8 rfl (one_lc h1y) fun w30 m8 o31 => ?_
          have so31 := o31.size
          have hB := hB.trans (o31.below (by omega))
          have hK := hK.only o31 (by omega)
          have mg := mg.only o31 (by omega)
          refine s_end (K29 _ _ ?_)
          refine wp_rs fun _ K30 => F.vl (x_ldW wide24 m8 rfl rfl) fun a F => F.mv rfl fun a F => F.vl (x_add (by omega) (by omega) rfl rfl) fun a F => F.mv rfl fun a F => ?_
          refine s_call (R := fun u w' => (u = .int .i64 (chk D top vars (d + 1) ri l).1 ∧ ((chk D top vars (d + 1) ri l).1 = 0 → Blk w' g 165 [.int .i64 D, .int .i64 ((chk D top vars (d + 1) ri l).2 : Int), .int .i64 top, .int .i64 vars])) ∧ Ktw g g w30 w') F [_, _, _] E153 rfl (by decide) (ihy (d + 1) ri w30 (by omega) (by omega) hri hB mg) ?_
          rintro _ w32 a ⟨⟨rfl, hmg⟩, k33⟩ F
          have sk33 := k33.size
          have hB := k33.under hB (by omega)
          have hK := hK.trans k33 (by omega)
          refine F.sg rfl fun a F => ?_
          refine s_end (K30 _ _ ?_)
          refine wp_rs fun _ K31 => F.mv rfl fun a F => F.vl (x_neq rfl rfl rfl) fun a F => ?_
          refine s_end (K31 _ _ ?_)
          refine wp_iff F rfl (fun hc72 => ?_) (fun hc72 => ?_)
          · refine wp_rs fun _ K32 => ?_
            refine F.mv rfl fun a F => F.sg rfl fun a F => ?_
            refine s_end (K32 _ _ ?_)
            refine wp_ret (inb_ret (then_ret (then_ret (inb_ret (then_ret (res_slot F rfl rfl ⟨_, rfl, ⟨int_of (by rw [chk_in hnd, hck, chks_out hc72]), fun h => absurd (by rw [chk_in hnd, hck, chks_out hc72] at h; exact h) hc72⟩, hK⟩))))))
          · have hc0 : (chk D top vars (d + 1) ri l).1 = 0 := by omega
            have mg := hmg hc0
            refine wp_skip (K28 _ _ ?_)
            refine wp_region_lit ?_
            refine F.vl (x_addn (i + 1) (by omega) (by omega) rfl rfl) fun a F => F.mv rfl fun a F => ?_
            refine s_end (hK' _ _ (by omega) ⟨(chk D top vars (d + 1) ri l).2, Nat.le_trans (chk_le _ _ _ _ _ _) hri, by rw [hck, chks_in hc0], mg, hB, hK, F.sub _ rfl⟩)
        · refine wp_exit (K24 _ _ ?_)
          refine wp_rs fun _ K33 => F.sg rfl fun a F => ?_
          refine s_end (K33 _ _ ?_)
          have hnil : ls.drop i = [] := List.drop_of_length_le (by omega)
          rw [hnil] at hck
          refine wp_ret (res_slot F rfl rfl ⟨_, rfl, ⟨int_of (by rw [chk_in hnd, hck]; rfl), fun _ => by rw [chk_in hnd, hck]; exact mg⟩, hK⟩)
      · have hnd := nodeE_iff.2 ⟨hp.1, hp.2, hkl, hnb, (by omega : ¬ (k = 2 ∧ (n < 0 ∨ vars ≤ n)))⟩
        refine dk2_seq (w20.heap.size) (w20.heap.size) (ops := regOps Try.f153 6) (N := 17) (by kernel_rfl) wide_orders (by kernel_rfl) fun w34 hw34 B35 hS K34 K34 => ?_
        have zw34 : w34.heap.size = w20.heap.size := by rw [hw34]
        have sB35 := B35.size
        have hB := bt hB B35
        have hK := hK.below B35
        have mg := mg.old B35
        have m3 := m3.old B35
        have mg_d := mg
        have m3_d := m3
        have hB_d := hB
        have hK_d := hK
        refine F.dv 0 42 (.fieldAddr 24 (.tmp 3) 0) hS (fun W hW => x_fa0 fa24_0 rfl) fun a F => F.dv 1 43 (.load 3 (.tmp 42)) hS (fun W hW => x_load rfl (m_load flat3 ((m3_d.k2 hW (by omega)).cell (j := 0) rfl))) fun a F => F.dv 2 44 (.binOp .eql 3 (.tmp 43) (.const (.int .i64 2)) 3) hS (fun W hW => eqlF (by omega) rfl rfl) fun a F => F.dv 3 45 (.move (.tmp 44)) hS (fun W hW => x_move rfl) fun a F => d_skip 4 46 45 (j := 3) (want := true) (op := (.fieldAddr 24 (.tmp 3) 1)) F hS (by kernel_rfl) (by kernel_rfl) rfl (by kernel_rfl) (by decide) fun a F => d_skip 5 47 45 (j := 3) (want := true) (op := (.load 3 (.tmp 46))) F hS (by kernel_rfl) (by kernel_rfl) rfl (by kernel_rfl) (by decide) fun a F => d_skip 6 48 45 (j := 3) (want := true) (op := (.binOp .lss 3 (.tmp 47) (.const (.int .i64 0)) 3)) F hS (by kernel_rfl) (by kernel_rfl) rfl (by kernel_rfl) (by decide) fun a F => d_skip 7 49 45 (j := 3) (want := true) (op := (.move (.tmp 48))) F hS (by kernel_rfl) (by kernel_rfl) rfl (by kernel_rfl) (by decide) fun a F => d_skipu 8 50 49 (j := 7) (want := false) (op := (.fieldAddr 24 (.tmp 3) 1)) F hS (by kernel_rfl) (by kernel_rfl) rfl (by kernel_rfl) (by decide) fun a F => d_skipu 9 51 49 (j := 7) (want := false) (op := (.load 3 (.tmp 50))) F hS (by kernel_rfl) (by kernel_rfl) rfl (by kernel_rfl) (by decide) fun a F => d_skipu 10 52 49 (j := 7) (want := false) (op := (.move (.tmp 2))) F hS (by kernel_rfl) (by kernel_rfl) rfl (by kernel_rfl) (by decide) fun a F => d_skipu 11 53 49 (j := 7) (want := false) (op := (.nilCheck (.tmp 52))) F hS (by kernel_rfl) (by kernel_rfl) rfl (by kernel_rfl) (by decide) fun a F => d_skipu 12 54 49 (j := 7) (want := false) (op := (.fieldAddr 165 (.tmp 53) 3)) F hS (by kernel_rfl) (by kernel_rfl) rfl (by kernel_rfl) (by decide) fun a F => d_skipu 13 55 49 (j := 7) (want := false) (op := (.load 3 (.tmp 54))) F hS (by kernel_rfl) (by kernel_rfl) rfl (by kernel_rfl) (by decide) fun a F => d_skipu 14 56 49 (j := 7) (want := false) (op := (.binOp .geq 3 (.tmp 51) (.tmp 55) 3)) F hS (by kernel_rfl) (by kernel_rfl) rfl (by kernel_rfl) (by decide) fun a F => d_skip 15 57 45 (j := 3) (want := true) (op := (.pick (.tmp 49) (.const (.bool true)) (.tmp 56))) F hS (by kernel_rfl) (by kernel_rfl) rfl (by kernel_rfl) (by decide) fun a F => F.dv 16 58 (.pick (.tmp 45) (.tmp 57) (.const (.bool false))) hS (fun W hW => x_pick (b := false) rfl rfl) fun a F => ?_
        refine d_end (by kernel_rfl) (K34 _ _ ?_)
        refine wp_if F rfl ?_
        refine wp_skip (K17 _ _ ?_)
        refine wp_seq_k fun _ K35 => ?_
        refine wp_rs fun _ K36 => F.vl (x_fa0 fa24_2 rfl) fun a F => F.ld m3 flat22 rfl rfl fun a F => F.vl (x_len Try.underlying22 rfl) fun a F => F.mv rfl fun a F => ?_
        refine s_end (K36 _ _ ?_)
        refine wp_block ?_
        refine wp_up xs.length (fun i a w => ∃ ri : Nat, ri ≤ 1000 ∧ chks D top vars (d + 1) (r - 1) ls = chks D top vars (d + 1) ri (ls.drop i) ∧ Blk w g 165 [.int .i64 D, .int .i64 (ri : Int), .int .i64 top, .int .i64 vars] ∧ Below w0.heap.size w0 w ∧ Ktw g g w1 w ∧ Fs 75 a [(62, .int .i64 (i : Int)), (61, .int .i64 (xs.length : Int)), (60, .slice av xs.length cv), (1, .int .i64 d), (2, .pointer (some ⟨g, 0, none⟩))]) ⟨r - 1, by omega, rfl, mg, hB, hK, F.sub _ rfl⟩ ?_
        clear F hB hK mg
        rintro i a w hi ⟨ri, hri, hck, mg, hB, hK, F⟩ K' hK'
        have sB := hB.size
        have hgl := mg.lt
        have sK := hK.size
        have hle := kids_le hkl
        refine wp_rs fun _ K37 => F.vl (x_lss rfl rfl rfl) fun a F => ?_
        refine s_end (K37 _ _ ?_)
        refine wp_seq_k fun _ K38 => ?_
        refine wp_iff F rfl (fun hc63 => ?_) (fun hc63 => ?_)
        · obtain ⟨b, off, c, y, hve, hy, hrow⟩ := rd_row3 hR (i := i) (by omega)
          cases hve
          obtain ⟨l, hlk⟩ : ∃ l, ls[i]? = some l := ⟨_, List.getElem?_eq_getElem (by omega)⟩
          have ihy := ih i y l hy hlk
          have h1y := (hk i y l hy hlk).one1
          rw [drop_at hlk] at hck
          refine wp_skip (K38 _ _ ?_)
          refine wp_seq_k fun _ K39 => ?_
          refine wp_block ?_
          refine wp_rs fun _ K40 => F.vl (x_ixa rfl rfl (m_ixsK i Try.underlying22 el22.size rfl (by omega))) fun a F => F.vl (x_ldA wide24 (hrow _ hB) rfl rfl) fun a F => ?_
          refine s_alloc F (by decide) zero24 fun w36 b8 a eb8 m8 B37 zb8 F => ?_
          have sB37 := B37.size
          have hB := bt hB B37
          have hK := hK.below B37
          have mg := mg.old B37
          refine s_putW F rfl rfl (size_wide wide24) m8 rfl (one_lc h1y) fun w38 m8 o39 => ?_
          have so39 := o39.size
          have hB := hB.trans (o39.below (by omega))
          have hK := hK.only o39 (by omega)
          have mg := mg.only o39 (by omega)
          refine s_end (K40 _ _ ?_)
          refine wp_rs fun _ K41 => F.vl (x_ldW wide24 m8 rfl rfl) fun a F => F.mv rfl fun a F => F.vl (x_add (by omega) (by omega) rfl rfl) fun a F => F.mv rfl fun a F => ?_
          refine s_call (R := fun u w' => (u = .int .i64 (chk D top vars (d + 1) ri l).1 ∧ ((chk D top vars (d + 1) ri l).1 = 0 → Blk w' g 165 [.int .i64 D, .int .i64 ((chk D top vars (d + 1) ri l).2 : Int), .int .i64 top, .int .i64 vars])) ∧ Ktw g g w38 w') F [_, _, _] E153 rfl (by decide) (ihy (d + 1) ri w38 (by omega) (by omega) hri hB mg) ?_
          rintro _ w40 a ⟨⟨rfl, hmg⟩, k41⟩ F
          have sk41 := k41.size
          have hB := k41.under hB (by omega)
          have hK := hK.trans k41 (by omega)
          refine F.sg rfl fun a F => ?_
          refine s_end (K41 _ _ ?_)
          refine wp_rs fun _ K42 => F.mv rfl fun a F => F.vl (x_neq rfl rfl rfl) fun a F => ?_
          refine s_end (K42 _ _ ?_)
          refine wp_iff F rfl (fun hc72 => ?_) (fun hc72 => ?_)
          · refine wp_rs fun _ K43 => ?_
            refine F.mv rfl fun a F => F.sg rfl fun a F => ?_
            refine s_end (K43 _ _ ?_)
            refine wp_ret (inb_ret (then_ret (then_ret (inb_ret (then_ret (res_slot F rfl rfl ⟨_, rfl, ⟨int_of (by rw [chk_in hnd, hck, chks_out hc72]), fun h => absurd (by rw [chk_in hnd, hck, chks_out hc72] at h; exact h) hc72⟩, hK⟩))))))
          · have hc0 : (chk D top vars (d + 1) ri l).1 = 0 := by omega
            have mg := hmg hc0
            refine wp_skip (K39 _ _ ?_)
            refine wp_region_lit ?_
            refine F.vl (x_addn (i + 1) (by omega) (by omega) rfl rfl) fun a F => F.mv rfl fun a F => ?_
            refine s_end (hK' _ _ (by omega) ⟨(chk D top vars (d + 1) ri l).2, Nat.le_trans (chk_le _ _ _ _ _ _) hri, by rw [hck, chks_in hc0], mg, hB, hK, F.sub _ rfl⟩)
        · refine wp_exit (K35 _ _ ?_)
          refine wp_rs fun _ K44 => F.sg rfl fun a F => ?_
          refine s_end (K44 _ _ ?_)
          have hnil : ls.drop i = [] := List.drop_of_length_le (by omega)
          rw [hnil] at hck
          refine wp_ret (res_slot F rfl rfl ⟨_, rfl, ⟨int_of (by rw [chk_in hnd, hck]; rfl), fun _ => by rw [chk_in hnd, hck]; exact mg⟩, hK⟩)
theorem isSound49 (x : C3) (l : Lv) (w0 : World) (hL : RL w0 x l) : Calls Try.prog 136 #[lv x] w0 fun e w' => e = .returned (.bool (decide (sndL l))) ∧ Below w0.heap.size w0 w' := by
 have hB := Below.refl w0.heap.size w0
 have sB := hB.size
 refine calls_fs 8 [(0, lv x)] Try.func136 rfl rfl rfl rfl rfl fun a F => ?_
 refine wp_rs fun _ K1 => ?_
 refine s_box (lc x) F (by decide) rfl rfl fun w2 b1 a eb1 m1 B3 zb1 F => ?_
 have sB3 := B3.size
 have hB := bt hB B3
 refine F.sg rfl fun a F => ?_
 refine s_end (K1 _ _ ?_)
 refine wp_rs fun _ K2 => F.vl (x_ldW wide24 m1 rfl rfl) fun a F => F.vl (x_build (vs := [(0, _), (1, _), (2, _), (3, _)]) rfl (b54_0123 _ _ _ _ _)) fun a F => ?_
 refine s_box ([.int .i64 256, .int .i64 1000, .int .i64 1099511627776, .int .i64 1001]) F (by decide) rfl rfl fun w4 b5 a eb5 m5 B5 zb5 F => ?_
 have sB5 := B5.size
 have hB := bt hB B5
 refine s_call (R := fun u w' => (u = .int .i64 (chk 256 1099511627776 1001 1 1000 l).1 ∧ ((chk 256 1099511627776 1001 1 1000 l).1 = 0 → Blk w' b5 165 [.int .i64 256, .int .i64 ((chk 256 1099511627776 1001 1 1000 l).2 : Int), .int .i64 1099511627776, .int .i64 1001])) ∧ Ktw b5 b5 w4 w') F [_, _, _] E153 rfl (by decide) (check34 256 1099511627776 1001 (by decide) w0 b5 (by omega) x l hL 1 1000 w4 (by decide) (by decide) (by decide) hB m5) ?_
 rintro _ w6 a ⟨⟨rfl, _⟩, k7⟩ F
 have sk7 := k7.size
 have hB := k7.under hB (by omega)
 refine F.vl (x_eql (b := decide (sndL l)) rfl rfl rfl) fun a F => F.sg rfl fun a F => ?_
 refine s_end (K2 _ _ ?_)
 refine wp_ret (res_slot F rfl rfl ⟨rfl, hB⟩)
theorem rmay35 (vars : Int) (w0 : World) (g : Nat) (hg : w0.heap.size ≤ g) : ∀ (x : C3) (l : Lv), RL w0 x l → ∀ (d : Int) (r : Nat) (w1 : World), 1 ≤ d → d ≤ 300 → r ≤ 100 → Below w0.heap.size w0 w1 → Blk w1 g 3 [.int .i64 (100 - (r : Int))] →
    Calls Try.prog 68 #[lv x, .int .i64 vars, .int .i64 d, .pointer (some ⟨g, 0, none⟩)] w1 fun e w' => ∃ v, e = .returned v ∧ (v = .int .i64 (chk 32 1048576 vars d r l).1 ∧ ((chk 32 1048576 vars d r l).1 = 0 → Blk w' g 3 [.int .i64 (100 - ((chk 32 1048576 vars d r l).2 : Int))])) ∧ Ktw g g w1 w' := by
  intro x l h
  induction h with
  | @mk k n v xs ls hR hl hk hbd9 ih =>
  intro d r w1 hd1 hd2 hr hB mg
  obtain ⟨av, cv, rfl, _⟩ := hR.form
  have hK := Ktw.refl g g w1
  have sB := hB.size
  have hgl := mg.lt
  refine calls_fs 101 [(0, .agg [.int .i64 k, .int .i64 n, .slice av xs.length cv].toArray), (1, .int .i64 vars), (2, .int .i64 d), (3, .pointer (some ⟨g, 0, none⟩))] Try.func68 rfl rfl rfl rfl rfl fun a F => ?_
  refine wp_rs fun _ K1 => ?_
  refine s_box ([.int .i64 k, .int .i64 n, .slice av xs.length cv]) F (by decide) rfl rfl fun w2 b4 a eb4 m4 B3 zb4 F => ?_
  have sB3 := B3.size
  have hB := bt hB B3
  have hK := hK.below B3
  have mg := mg.old B3
  refine F.sg rfl fun a F => ?_
  refine s_end (K1 _ _ ?_)
  refine wp_rs fun _ K2 => F.mv rfl fun a F => F.vl (x_nil rfl) fun a F => F.ld mg flat3 rfl rfl fun a F => F.vl (x_add (by omega) (by omega) rfl rfl) fun a F => F.vl (x_nil rfl) fun a F => ?_
  refine s_put F rfl rfl flat3 mg (by first | (simp; done) | (show _ < 3; decide)) rfl fun w4 mg o5 => ?_
  have so5 := o5.size
  have hB := hB.trans (o5.below (by omega))
  have hK := hK.only o5 (by omega)
  have m4 := m4.only o5 (by omega)
  refine s_end (K2 _ _ ?_)
  refine wp_seq_k fun K3 hK3 => ?_
  have key3 : ∀ (a : Act) (w9 : World), d ≤ 32 ∧ r ≠ 0 → kidsB k ls.length = true → nodeE 32 1048576 vars d r k n ls.length = 0 → Blk w9 g 3 [.int .i64 (100 - (r : Int) + 1)] → Blk w9 b4 24 [.int .i64 k, .int .i64 n, .slice av xs.length cv] → Below w0.heap.size w0 w9 → Ktw g g w1 w9 → Fs 101 a [(1, .int .i64 vars), (2, .int .i64 d), (3, .pointer (some ⟨g, 0, none⟩)), (4, .pointer (some ⟨b4, 0, none⟩))] → K3 a w9 := by
    have hgb : w0.heap.size ≤ g ∧ g < b4 := ⟨by omega, by omega⟩
    repeat clear F
    clear hB hK mg m4
    rintro a w9 hp hkl hnd mg m4 hB hK F
    have sB := hB.size
    have sK := hK.size
    have hgl := mg.lt
    have hm4l := m4.lt
    refine hK3 _ _ ?_
    refine wp_seq_k fun _ K4 => ?_
    refine wp_rs fun _ K5 => F.vl (x_fa0 fa24_2 rfl) fun a F => F.ld m4 flat22 rfl rfl fun a F => F.vl (x_len Try.underlying22 rfl) fun a F => F.mv rfl fun a F => ?_
    refine s_end (K5 _ _ ?_)
    refine wp_block ?_
    have mg : Blk w9 g 3 [.int .i64 (100 - ((r - 1 : Nat) : Int))] := by rw [show (100 : Int) - ((r - 1 : Nat) : Int) = 100 - (r : Int) + 1 by omega]; exact mg
    refine wp_up xs.length (fun i a w => ∃ ri : Nat, ri ≤ 100 ∧ chks 32 1048576 vars (d + 1) (r - 1) ls = chks 32 1048576 vars (d + 1) ri (ls.drop i) ∧ Blk w g 3 [.int .i64 (100 - (ri : Int))] ∧ Below w0.heap.size w0 w ∧ Ktw g g w1 w ∧ Fs 101 a [(87, .int .i64 (i : Int)), (86, .int .i64 (xs.length : Int)), (85, .slice av xs.length cv), (1, .int .i64 vars), (2, .int .i64 d), (3, .pointer (some ⟨g, 0, none⟩))]) ⟨r - 1, by omega, rfl, mg, hB, hK, F.sub _ rfl⟩ ?_
    clear F hB hK mg
    rintro i a w hi ⟨ri, hri, hck, mg, hB, hK, F⟩ K' hK'
    have sB := hB.size
    have hgl := mg.lt
    have sK := hK.size
    have hle := kids_le hkl
    refine wp_rs fun _ K6 => F.vl (x_lss rfl rfl rfl) fun a F => ?_
    refine s_end (K6 _ _ ?_)
    refine wp_seq_k fun _ K7 => ?_
    refine wp_iff F rfl (fun hc88 => ?_) (fun hc88 => ?_)
    · obtain ⟨b, off, c, y, hve, hy, hrow⟩ := rd_row3 hR (i := i) (by omega)
      cases hve
      obtain ⟨l, hlk⟩ : ∃ l, ls[i]? = some l := ⟨_, List.getElem?_eq_getElem (by omega)⟩
      have ihy := ih i y l hy hlk
      have h1y := (hk i y l hy hlk).one1
      rw [drop_at hlk] at hck
      refine wp_skip (K7 _ _ ?_)
      refine wp_seq_k fun _ K8 => ?_
      refine wp_block ?_
      refine wp_rs fun _ K9 => F.vl (x_ixa rfl rfl (m_ixsK i Try.underlying22 el22.size rfl (by omega))) fun a F => F.vl (x_ldA wide24 (hrow _ hB) rfl rfl) fun a F => ?_
      refine s_alloc F (by decide) zero24 fun w6 b10 a eb10 m10 B7 zb10 F => ?_
      have sB7 := B7.size
      have hB := bt hB B7
      have hK := hK.below B7
      have mg := mg.old B7
      refine s_putW F rfl rfl (size_wide wide24) m10 rfl (one_lc h1y) fun w8 m10 o9 => ?_
      have so9 := o9.size
      have hB := hB.trans (o9.below (by omega))
      have hK := hK.only o9 (by omega)
      have mg := mg.only o9 (by omega)
      refine s_end (K9 _ _ ?_)
      refine wp_rs fun _ K10 => F.vl (x_ldW wide24 m10 rfl rfl) fun a F => F.mv rfl fun a F => F.mv rfl fun a F => F.vl (x_add (by omega) (by omega) rfl rfl) fun a F => F.mv rfl fun a F => ?_
      refine s_call (R := fun u w' => (u = .int .i64 (chk 32 1048576 vars (d + 1) ri l).1 ∧ ((chk 32 1048576 vars (d + 1) ri l).1 = 0 → Blk w' g 3 [.int .i64 (100 - ((chk 32 1048576 vars (d + 1) ri l).2 : Int))])) ∧ Ktw g g w8 w') F [_, _, _, _] E68 rfl (by decide) (ihy (d + 1) ri w8 (by omega) (by omega) hri hB mg) ?_
      rintro _ w10 a ⟨⟨rfl, hmg⟩, k11⟩ F
      have sk11 := k11.size
      have hB := k11.under hB (by omega)
      have hK := hK.trans k11 (by omega)
      refine F.sg rfl fun a F => ?_
      refine s_end (K10 _ _ ?_)
      refine wp_rs fun _ K11 => F.mv rfl fun a F => F.vl (x_neq rfl rfl rfl) fun a F => ?_
      refine s_end (K11 _ _ ?_)
      refine wp_iff F rfl (fun hc98 => ?_) (fun hc98 => ?_)
      · refine wp_rs fun _ K12 => ?_
        refine F.mv rfl fun a F => F.sg rfl fun a F => ?_
        refine s_end (K12 _ _ ?_)
        refine wp_ret (inb_ret (then_ret (then_ret (inb_ret (then_ret (res_slot F rfl rfl ⟨_, rfl, ⟨int_of (by rw [chk_in hnd, hck, chks_out hc98]), fun h => absurd (by rw [chk_in hnd, hck, chks_out hc98] at h; exact h) hc98⟩, hK⟩))))))
      · have hc0 : (chk 32 1048576 vars (d + 1) ri l).1 = 0 := by omega
        have mg := hmg hc0
        refine wp_skip (K8 _ _ ?_)
        refine wp_region_lit ?_
        refine F.vl (x_addn (i + 1) (by omega) (by omega) rfl rfl) fun a F => F.mv rfl fun a F => ?_
        refine s_end (hK' _ _ (by omega) ⟨(chk 32 1048576 vars (d + 1) ri l).2, Nat.le_trans (chk_le _ _ _ _ _ _) hri, by rw [hck, chks_in hc0], mg, hB, hK, F.sub _ rfl⟩)
    · refine wp_exit (K4 _ _ ?_)
      refine wp_rs fun _ K13 => F.sg rfl fun a F => ?_
      refine s_end (K13 _ _ ?_)
      have hnil : ls.drop i = [] := List.drop_of_length_le (by omega)
      rw [hnil] at hck
      refine wp_ret (res_slot F rfl rfl ⟨_, rfl, ⟨int_of (by rw [chk_in hnd, hck]; rfl), fun _ => by rw [chk_in hnd, hck]; exact mg⟩, hK⟩)
  refine wp_block ?_
  rcases (show 32 < d ∨ (d ≤ 32 ∧ r = 0) ∨ (d ≤ 32 ∧ r ≠ 0) by omega) with hp | hp | hp
  · skip
    refine wp_rs fun _ K15 => F.mv rfl fun a F => F.vl (gtrT (by omega) rfl rfl) fun a F => F.mv rfl fun a F => s_grdn 20 F rfl rfl (by decide) fun a F => s_grdn 20 F rfl rfl (by decide) fun a F => s_grdn 20 F rfl rfl (by decide) fun a F => s_grdn 20 F rfl rfl (by decide) fun a F => F.vl (x_pick (b := true) rfl rfl) fun a F => F.sg rfl fun a F => ?_
    refine s_end (K15 _ _ ?_)
    refine wp_if F rfl ?_
    refine wp_rs fun _ K16 => F.sg rfl fun a F => ?_
    refine s_end (K16 _ _ ?_)
    refine wp_ret (inb_ret (then_ret (res_slot F rfl rfl ⟨_, rfl, ⟨int_of (chk_two (by omega)).symm, fun h => absurd ((chk_two (by omega)).symm.trans h) (by decide)⟩, hK⟩)))
  · skip
    refine wp_rs fun _ K17 => F.mv rfl fun a F => F.vl (gtrF (by omega) rfl rfl) fun a F => F.mv rfl fun a F => s_grd 20 F rfl rfl rfl <| F.mv rfl fun a F => s_grd 20 F rfl rfl rfl <| F.vl (x_nil rfl) fun a F => s_grd 20 F rfl rfl rfl <| F.ld mg flat3 rfl rfl fun a F => s_grd 20 F rfl rfl rfl <| F.vl (gtrT (by omega) rfl rfl) fun a F => F.vl (x_pick (b := false) rfl rfl) fun a F => F.sg rfl fun a F => ?_
    refine s_end (K17 _ _ ?_)
    refine wp_if F rfl ?_
    refine wp_rs fun _ K18 => F.sg rfl fun a F => ?_
    refine s_end (K18 _ _ ?_)
    refine wp_ret (inb_ret (then_ret (res_slot F rfl rfl ⟨_, rfl, ⟨int_of (chk_two (by omega)).symm, fun h => absurd ((chk_two (by omega)).symm.trans h) (by decide)⟩, hK⟩)))
  · skip
    refine wp_rs fun _ K19 => F.mv rfl fun a F => F.vl (gtrF (by omega) rfl rfl) fun a F => F.mv rfl fun a F => s_grd 20 F rfl rfl rfl <| F.mv rfl fun a F => s_grd 20 F rfl rfl rfl <| F.vl (x_nil rfl) fun a F => s_grd 20 F rfl rfl rfl <| F.ld mg flat3 rfl rfl fun a F => s_grd 20 F rfl rfl rfl <| F.vl (gtrF (by omega) rfl rfl) fun a F => F.vl (x_pick (b := false) rfl rfl) fun a F => F.sg rfl fun a F => ?_
    refine s_end (K19 _ _ ?_)
    refine wp_if F rfl ?_
    rcases (show arI k < 0 ∨ (0 ≤ arI k ∧ (xs.length : Int) ≠ arI k) ∨ (0 ≤ arI k ∧ (xs.length : Int) = arI k) by omega) with hkb | hkb | hkb
    · have hq : kidsB k ls.length = false ∨ numB 1048576 k n = false := .inl (arI_no (by omega))
      refine dk2_seq (w4.heap.size) (w4.heap.size) (ops := regOps Try.f68 4) (N := 14) (by kernel_rfl) wide_orders (by kernel_rfl) fun w12 hw12 B13 hS K21 hK21 => ?_
      have zw12 : w12.heap.size = w4.heap.size := by rw [hw12]
      have sB13 := B13.size
      have hB := bt hB B13
      have hK := hK.below B13
      have mg := mg.old B13
      have m4 := m4.old B13
      have mg_d := mg
      have m4_d := m4
      have hB_d := hB
      have hK_d := hK
      refine F.dv 0 27 (.fieldAddr 24 (.tmp 4) 0) hS (fun W hW => x_fa0 fa24_0 rfl) fun a F => F.dv 1 28 (.load 3 (.tmp 27)) hS (fun W hW => x_load rfl (m_load flat3 ((m4_d.k2 hW (by omega)).cell (j := 0) rfl))) fun a F => ?_
      refine d1 2 (some 29) (.call (.mk (.value (.func 113)) #[(.tmp 28)] #[3])) fun ty pos af => ?_
      refine s_callS [.int .i64 k] F E113 rfl (by decide) (arity58 k _) fun a F => ?_
      refine s_end ⟨hS, ?_⟩
      refine F.dv 3 30 (.binOp .lss 3 (.tmp 29) (.const (.int .i64 0)) 3) hS (fun W hW => lssT (by omega) rfl rfl) fun a F => F.dv 4 31 (.move (.tmp 30)) hS (fun W hW => x_move rfl) fun a F => d_skip 5 32 31 (j := 4) (want := false) (op := (.fieldAddr 24 (.tmp 4) 2)) F hS (by kernel_rfl) (by kernel_rfl) rfl (by kernel_rfl) (by decide) fun a F => d_skip 6 33 31 (j := 4) (want := false) (op := (.load 22 (.tmp 32))) F hS (by kernel_rfl) (by kernel_rfl) rfl (by kernel_rfl) (by decide) fun a F => d_skip 7 34 31 (j := 4) (want := false) (op := (.call (.mk (.builtin .len) #[(.tmp 33)] #[22]))) F hS (by kernel_rfl) (by kernel_rfl) rfl (by kernel_rfl) (by decide) fun a F => d_skip 8 35 31 (j := 4) (want := false) (op := (.fieldAddr 24 (.tmp 4) 0)) F hS (by kernel_rfl) (by kernel_rfl) rfl (by kernel_rfl) (by decide) fun a F => d_skip 9 36 31 (j := 4) (want := false) (op := (.load 3 (.tmp 35))) F hS (by kernel_rfl) (by kernel_rfl) rfl (by kernel_rfl) (by decide) fun a F => d_skip 10 37 31 (j := 4) (want := false) (op := (.call (.mk (.value (.func 113)) #[(.tmp 36)] #[3]))) F hS (by kernel_rfl) (by kernel_rfl) rfl (by kernel_rfl) (by decide) fun a F => d_skip 11 38 31 (j := 4) (want := false) (op := (.binOp .neq 3 (.tmp 34) (.tmp 37) 3)) F hS (by kernel_rfl) (by kernel_rfl) rfl (by kernel_rfl) (by decide) fun a F => F.dv 12 39 (.pick (.tmp 31) (.const (.bool true)) (.tmp 38)) hS (fun W hW => x_pick (b := true) rfl rfl) fun a F => F.dv 13 26 (.assign (.tmp 39)) hS (fun W hW => x_assign rfl) fun a F => ?_
      refine d_end (by kernel_rfl) (hK21 _ _ ?_)
      refine wp_if F rfl ?_
      refine wp_rs fun _ K22 => F.sg rfl fun a F => ?_
      refine s_end (K22 _ _ ?_)
      refine wp_ret (inb_ret (then_ret (res_slot F rfl rfl ⟨_, rfl, ⟨int_of (chk_one (by omega) hq).symm, fun h => absurd ((chk_one (by omega) hq).symm.trans h) (by decide)⟩, hK⟩)))
    · have hq : kidsB k ls.length = false ∨ numB 1048576 k n = false := .inl (arI_no (by omega))
      refine dk2_seq (w4.heap.size) (w4.heap.size) (ops := regOps Try.f68 4) (N := 14) (by kernel_rfl) wide_orders (by kernel_rfl) fun w14 hw14 B15 hS K23 hK23 => ?_
      have zw14 : w14.heap.size = w4.heap.size := by rw [hw14]
      have sB15 := B15.size
      have hB := bt hB B15
      have hK := hK.below B15
      have mg := mg.old B15
      have m4 := m4.old B15
      have mg_d := mg
      have m4_d := m4
      have hB_d := hB
      have hK_d := hK
      refine F.dv 0 27 (.fieldAddr 24 (.tmp 4) 0) hS (fun W hW => x_fa0 fa24_0 rfl) fun a F => F.dv 1 28 (.load 3 (.tmp 27)) hS (fun W hW => x_load rfl (m_load flat3 ((m4_d.k2 hW (by omega)).cell (j := 0) rfl))) fun a F => ?_
      refine d1 2 (some 29) (.call (.mk (.value (.func 113)) #[(.tmp 28)] #[3])) fun ty pos af => ?_
      refine s_callS [.int .i64 k] F E113 rfl (by decide) (arity58 k _) fun a F => ?_
      refine s_end ⟨hS, ?_⟩
      refine F.dv 3 30 (.binOp .lss 3 (.tmp 29) (.const (.int .i64 0)) 3) hS (fun W hW => lssF (by omega) rfl rfl) fun a F => F.dv 4 31 (.move (.tmp 30)) hS (fun W hW => x_move rfl) fun a F => F.dg 5 32 31 4 false (.fieldAddr 24 (.tmp 4) 2) hS rfl (fun W hW => x_fa0 fa24_2 rfl) fun a F => F.dg 6 33 31 4 false (.load 22 (.tmp 32)) hS rfl (fun W hW => x_load rfl (m_load flat22 ((m4_d.k2 hW (by omega)).cell (j := 2) rfl))) fun a F => F.dg 7 34 31 4 false (.call (.mk (.builtin .len) #[(.tmp 33)] #[22])) hS rfl (fun W hW => x_len Try.underlying22 rfl) fun a F => F.dg 8 35 31 4 false (.fieldAddr 24 (.tmp 4) 0) hS rfl (fun W hW => x_fa0 fa24_0 rfl) fun a F => F.dg 9 36 31 4 false (.load 3 (.tmp 35)) hS rfl (fun W hW => x_load rfl (m_load flat3 ((m4_d.k2 hW (by omega)).cell (j := 0) rfl))) fun a F => ?_
      refine d_oneg 10 31 (some 37) (.call (.mk (.value (.func 113)) #[(.tmp 36)] #[3])) (j := 4) (want := false) F (by kernel_rfl) (by kernel_rfl) (by kernel_rfl) rfl fun ty pos af => ?_
      refine s_callS [.int .i64 k] F E113 rfl (by decide) (arity58 k _) fun a F => ?_
      refine s_end ⟨hS, ?_⟩
      refine F.dg 11 38 31 4 false (.binOp .neq 3 (.tmp 34) (.tmp 37) 3) hS rfl (fun W hW => neqT (by omega) rfl rfl) fun a F => F.dv 12 39 (.pick (.tmp 31) (.const (.bool true)) (.tmp 38)) hS (fun W hW => x_pick (b := false) rfl rfl) fun a F => F.dv 13 26 (.assign (.tmp 39)) hS (fun W hW => x_assign rfl) fun a F => ?_
      refine d_end (by kernel_rfl) (hK23 _ _ ?_)
      refine wp_if F rfl ?_
      refine wp_rs fun _ K24 => F.sg rfl fun a F => ?_
      refine s_end (K24 _ _ ?_)
      refine wp_ret (inb_ret (then_ret (res_slot F rfl rfl ⟨_, rfl, ⟨int_of (chk_one (by omega) hq).symm, fun h => absurd ((chk_one (by omega) hq).symm.trans h) (by decide)⟩, hK⟩)))
    · have hkl : kidsB k ls.length = true := arI_kids.2 (by omega)
      refine dk2_seq (w4.heap.size) (w4.heap.size) (ops := regOps Try.f68 4) (N := 14) (by kernel_rfl) wide_orders (by kernel_rfl) fun w16 hw16 B17 hS K25 K25 => ?_
      have zw16 : w16.heap.size = w4.heap.size := by rw [hw16]
      have sB17 := B17.size
      have hB := bt hB B17
      have hK := hK.below B17
      have mg := mg.old B17
      have m4 := m4.old B17
      have mg_d := mg
      have m4_d := m4
      have hB_d := hB
      have hK_d := hK
      refine F.dv 0 27 (.fieldAddr 24 (.tmp 4) 0) hS (fun W hW => x_fa0 fa24_0 rfl) fun a F => F.dv 1 28 (.load 3 (.tmp 27)) hS (fun W hW => x_load rfl (m_load flat3 ((m4_d.k2 hW (by omega)).cell (j := 0) rfl))) fun a F => ?_
      refine d1 2 (some 29) (.call (.mk (.value (.func 113)) #[(.tmp 28)] #[3])) fun ty pos af => ?_
      refine s_callS [.int .i64 k] F E113 rfl (by decide) (arity58 k _) fun a F => ?_
      refine s_end ⟨hS, ?_⟩
      refine F.dv 3 30 (.binOp .lss 3 (.tmp 29) (.const (.int .i64 0)) 3) hS (fun W hW => lssF (by omega) rfl rfl) fun a F => F.dv 4 31 (.move (.tmp 30)) hS (fun W hW => x_move rfl) fun a F => F.dg 5 32 31 4 false (.fieldAddr 24 (.tmp 4) 2) hS rfl (fun W hW => x_fa0 fa24_2 rfl) fun a F => F.dg 6 33 31 4 false (.load 22 (.tmp 32)) hS rfl (fun W hW => x_load rfl (m_load flat22 ((m4_d.k2 hW (by omega)).cell (j := 2) rfl))) fun a F => F.dg 7 34 31 4 false (.call (.mk (.builtin .len) #[(.tmp 33)] #[22])) hS rfl (fun W hW => x_len Try.underlying22 rfl) fun a F => F.dg 8 35 31 4 false (.fieldAddr 24 (.tmp 4) 0) hS rfl (fun W hW => x_fa0 fa24_0 rfl) fun a F => F.dg 9 36 31 4 false (.load 3 (.tmp 35)) hS rfl (fun W hW => x_load rfl (m_load flat3 ((m4_d.k2 hW (by omega)).cell (j := 0) rfl))) fun a F => ?_
      refine d_oneg 10 31 (some 37) (.call (.mk (.value (.func 113)) #[(.tmp 36)] #[3])) (j := 4) (want := false) F (by kernel_rfl) (by kernel_rfl) (by kernel_rfl) rfl fun ty pos af => ?_
      refine s_callS [.int .i64 k] F E113 rfl (by decide) (arity58 k _) fun a F => ?_
      refine s_end ⟨hS, ?_⟩
      refine F.dg 11 38 31 4 false (.binOp .neq 3 (.tmp 34) (.tmp 37) 3) hS rfl (fun W hW => neqF (by omega) rfl rfl) fun a F => F.dv 12 39 (.pick (.tmp 31) (.const (.bool true)) (.tmp 38)) hS (fun W hW => x_pick (b := false) rfl rfl) fun a F => F.dv 13 26 (.assign (.tmp 39)) hS (fun W hW => x_assign rfl) fun a F => ?_
      refine d_end (by kernel_rfl) (K25 _ _ ?_)
      refine wp_if F rfl ?_
      rcases (show (k = 1 ∧ n < 0) ∨ (k = 1 ∧ 0 ≤ n ∧ 1048576 < n) ∨ (k = 1 ∧ 0 ≤ n ∧ n ≤ 1048576) ∨ (k = 3 ∧ n < 1) ∨ (k = 3 ∧ 1 ≤ n ∧ 1048576 < n) ∨ (k = 3 ∧ 1 ≤ n ∧ n ≤ 1048576) ∨ (k = 2 ∧ n < 0) ∨ (k = 2 ∧ 0 ≤ n ∧ vars ≤ n) ∨ (k = 2 ∧ 0 ≤ n ∧ n < vars) ∨ (k ≠ 1 ∧ k ≠ 2 ∧ k ≠ 3) by omega) with hv | hv | hv | hv | hv | hv | hv | hv | hv | hv
      · have hq : kidsB k ls.length = false ∨ numB 1048576 k n = false := .inr (numB_no (by omega))
        refine wp_rs fun _ K27 => F.vl (x_fa0 fa24_0 rfl) fun a F => F.ld m4 flat3 rfl rfl fun a F => F.vl (eqlT (by omega) rfl rfl) fun a F => F.mv rfl fun a F => s_grd 44 F rfl rfl rfl <| F.vl (x_fa0 fa24_1 rfl) fun a F => s_grd 44 F rfl rfl rfl <| F.ld m4 flat3 rfl rfl fun a F => s_grd 44 F rfl rfl rfl <| F.vl (lssT (by omega) rfl rfl) fun a F => s_grd 44 F rfl rfl rfl <| F.mv rfl fun a F => s_grdn 48 F rfl rfl (by decide) fun a F => s_grdn 48 F rfl rfl (by decide) fun a F => s_grdn 48 F rfl rfl (by decide) fun a F => s_grd 44 F rfl rfl rfl <| F.vl (x_pick (b := true) rfl rfl) fun a F => F.vl (x_pick (b := true) rfl rfl) fun a F => F.mv rfl fun a F => s_grdn 54 F rfl rfl (by decide) fun a F => s_grdn 54 F rfl rfl (by decide) fun a F => s_grdn 54 F rfl rfl (by decide) fun a F => s_grdn 54 F rfl rfl (by decide) fun a F => s_grdu 58 F rfl rfl (by decide) fun a F => s_grdu 58 F rfl rfl (by decide) fun a F => s_grdu 58 F rfl rfl (by decide) fun a F => s_grdu 58 F rfl rfl (by decide) fun a F => s_grdu 62 F rfl rfl (by decide) fun a F => s_grdu 62 F rfl rfl (by decide) fun a F => s_grdu 62 F rfl rfl (by decide) fun a F => ?_
        refine s_grdu 58 F rfl rfl (by decide) fun a F => s_grdn 54 F rfl rfl (by decide) fun a F => F.vl (x_pick (b := true) rfl rfl) fun a F => F.sg rfl fun a F => ?_
        refine s_end (K27 _ _ ?_)
        refine wp_if F rfl ?_
        refine wp_rs fun _ K28 => F.sg rfl fun a F => ?_
        refine s_end (K28 _ _ ?_)
        refine wp_ret (inb_ret (then_ret (res_slot F rfl rfl ⟨_, rfl, ⟨int_of (chk_one (by omega) hq).symm, fun h => absurd ((chk_one (by omega) hq).symm.trans h) (by decide)⟩, hK⟩)))
      · have hq : kidsB k ls.length = false ∨ numB 1048576 k n = false := .inr (numB_no (by omega))
        refine wp_rs fun _ K29 => F.vl (x_fa0 fa24_0 rfl) fun a F => F.ld m4 flat3 rfl rfl fun a F => F.vl (eqlT (by omega) rfl rfl) fun a F => F.mv rfl fun a F => s_grd 44 F rfl rfl rfl <| F.vl (x_fa0 fa24_1 rfl) fun a F => s_grd 44 F rfl rfl rfl <| F.ld m4 flat3 rfl rfl fun a F => s_grd 44 F rfl rfl rfl <| F.vl (lssF (by omega) rfl rfl) fun a F => s_grd 44 F rfl rfl rfl <| F.mv rfl fun a F => s_grd 48 F rfl rfl rfl <| F.vl (x_fa0 fa24_1 rfl) fun a F => s_grd 48 F rfl rfl rfl <| F.ld m4 flat3 rfl rfl fun a F => s_grd 48 F rfl rfl rfl <| F.vl (gtrT (by omega) rfl rfl) fun a F => s_grd 44 F rfl rfl rfl <| F.vl (x_pick (b := false) rfl rfl) fun a F => F.vl (x_pick (b := true) rfl rfl) fun a F => F.mv rfl fun a F => s_grdn 54 F rfl rfl (by decide) fun a F => s_grdn 54 F rfl rfl (by decide) fun a F => s_grdn 54 F rfl rfl (by decide) fun a F => s_grdn 54 F rfl rfl (by decide) fun a F => s_grdu 58 F rfl rfl (by decide) fun a F => s_grdu 58 F rfl rfl (by decide) fun a F => s_grdu 58 F rfl rfl (by decide) fun a F => s_grdu 58 F rfl rfl (by decide) fun a F => ?_
        refine s_grdu 62 F rfl rfl (by decide) fun a F => s_grdu 62 F rfl rfl (by decide) fun a F => s_grdu 62 F rfl rfl (by decide) fun a F => s_grdu 58 F rfl rfl (by decide) fun a F => s_grdn 54 F rfl rfl (by decide) fun a F => F.vl (x_pick (b := true) rfl rfl) fun a F => F.sg rfl fun a F => ?_
        refine s_end (K29 _ _ ?_)
        refine wp_if F rfl ?_
        refine wp_rs fun _ K30 => F.sg rfl fun a F => ?_
        refine s_end (K30 _ _ ?_)
        refine wp_ret (inb_ret (then_ret (res_slot F rfl rfl ⟨_, rfl, ⟨int_of (chk_one (by omega) hq).symm, fun h => absurd ((chk_one (by omega) hq).symm.trans h) (by decide)⟩, hK⟩)))
      · have hnb : numB 1048576 k n = true := numB_iff.2 (by omega)
        have hnd := nodeE_iff.2 ⟨hp.1, hp.2, hkl, hnb, (by omega : ¬ (k = 2 ∧ (n < 0 ∨ vars ≤ n)))⟩
        refine wp_rs fun _ K31 => F.vl (x_fa0 fa24_0 rfl) fun a F => F.ld m4 flat3 rfl rfl fun a F => F.vl (eqlT (by omega) rfl rfl) fun a F => F.mv rfl fun a F => s_grd 44 F rfl rfl rfl <| F.vl (x_fa0 fa24_1 rfl) fun a F => s_grd 44 F rfl rfl rfl <| F.ld m4 flat3 rfl rfl fun a F => s_grd 44 F rfl rfl rfl <| F.vl (lssF (by omega) rfl rfl) fun a F => s_grd 44 F rfl rfl rfl <| F.mv rfl fun a F => s_grd 48 F rfl rfl rfl <| F.vl (x_fa0 fa24_1 rfl) fun a F => s_grd 48 F rfl rfl rfl <| F.ld m4 flat3 rfl rfl fun a F => s_grd 48 F rfl rfl rfl <| F.vl (gtrF (by omega) rfl rfl) fun a F => s_grd 44 F rfl rfl rfl <| F.vl (x_pick (b := false) rfl rfl) fun a F => F.vl (x_pick (b := true) rfl rfl) fun a F => F.mv rfl fun a F => s_grd 54 F rfl rfl rfl <| F.vl (x_fa0 fa24_0 rfl) fun a F => s_grd 54 F rfl rfl rfl <| F.ld m4 flat3 rfl rfl fun a F => s_grd 54 F rfl rfl rfl <| F.vl (eqlF (by omega) rfl rfl) fun a F => s_grd 54 F rfl rfl rfl <| F.mv rfl fun a F => ?_
        refine s_grdn 58 F rfl rfl (by decide) fun a F => s_grdn 58 F rfl rfl (by decide) fun a F => s_grdn 58 F rfl rfl (by decide) fun a F => s_grdn 58 F rfl rfl (by decide) fun a F => s_grdu 62 F rfl rfl (by decide) fun a F => s_grdu 62 F rfl rfl (by decide) fun a F => s_grdu 62 F rfl rfl (by decide) fun a F => s_grdn 58 F rfl rfl (by decide) fun a F => s_grd 54 F rfl rfl rfl <| F.vl (x_pick (b := false) rfl rfl) fun a F => F.vl (x_pick (b := false) rfl rfl) fun a F => F.sg rfl fun a F => ?_
        refine s_end (K31 _ _ ?_)
        refine wp_if F rfl ?_
        refine wp_rs fun _ K32 => F.vl (x_fa0 fa24_0 rfl) fun a F => F.ld m4 flat3 rfl rfl fun a F => F.vl (eqlF (by omega) rfl rfl) fun a F => F.mv rfl fun a F => s_grdn 73 F rfl rfl (by decide) fun a F => s_grdn 73 F rfl rfl (by decide) fun a F => s_grdn 73 F rfl rfl (by decide) fun a F => s_grdn 73 F rfl rfl (by decide) fun a F => s_grdu 77 F rfl rfl (by decide) fun a F => s_grdu 77 F rfl rfl (by decide) fun a F => s_grdu 77 F rfl rfl (by decide) fun a F => s_grdu 77 F rfl rfl (by decide) fun a F => s_grdn 73 F rfl rfl (by decide) fun a F => F.vl (x_pick (b := false) rfl rfl) fun a F => F.sg rfl fun a F => ?_
        refine s_end (K32 _ _ ?_)
        refine wp_if F rfl ?_
        refine wp_skip ?_
        exact key3 _ _ hp hkl hnd mg m4 hB hK (F.sub _ rfl)
      · have hq : kidsB k ls.length = false ∨ numB 1048576 k n = false := .inr (numB_no (by omega))
        refine wp_rs fun _ K33 => F.vl (x_fa0 fa24_0 rfl) fun a F => F.ld m4 flat3 rfl rfl fun a F => F.vl (eqlF (by omega) rfl rfl) fun a F => F.mv rfl fun a F => s_grdn 44 F rfl rfl (by decide) fun a F => s_grdn 44 F rfl rfl (by decide) fun a F => s_grdn 44 F rfl rfl (by decide) fun a F => s_grdn 44 F rfl rfl (by decide) fun a F => s_grdu 48 F rfl rfl (by decide) fun a F => s_grdu 48 F rfl rfl (by decide) fun a F => s_grdu 48 F rfl rfl (by decide) fun a F => s_grdn 44 F rfl rfl (by decide) fun a F => F.vl (x_pick (b := false) rfl rfl) fun a F => F.mv rfl fun a F => s_grd 54 F rfl rfl rfl <| F.vl (x_fa0 fa24_0 rfl) fun a F => s_grd 54 F rfl rfl rfl <| F.ld m4 flat3 rfl rfl fun a F => s_grd 54 F rfl rfl rfl <| F.vl (eqlT (by omega) rfl rfl) fun a F => s_grd 54 F rfl rfl rfl <| F.mv rfl fun a F => s_grd 58 F rfl rfl rfl <| F.vl (x_fa0 fa24_1 rfl) fun a F => s_grd 58 F rfl rfl rfl <| F.ld m4 flat3 rfl rfl fun a F => s_grd 58 F rfl rfl rfl <| F.vl (lssT (by omega) rfl rfl) fun a F => s_grd 58 F rfl rfl rfl <| F.mv rfl fun a F => ?_
        refine s_grdn 62 F rfl rfl (by decide) fun a F => s_grdn 62 F rfl rfl (by decide) fun a F => s_grdn 62 F rfl rfl (by decide) fun a F => s_grd 58 F rfl rfl rfl <| F.vl (x_pick (b := true) rfl rfl) fun a F => s_grd 54 F rfl rfl rfl <| F.vl (x_pick (b := true) rfl rfl) fun a F => F.vl (x_pick (b := false) rfl rfl) fun a F => F.sg rfl fun a F => ?_
        refine s_end (K33 _ _ ?_)
        refine wp_if F rfl ?_
        refine wp_rs fun _ K34 => F.sg rfl fun a F => ?_
        refine s_end (K34 _ _ ?_)
        refine wp_ret (inb_ret (then_ret (res_slot F rfl rfl ⟨_, rfl, ⟨int_of (chk_one (by omega) hq).symm, fun h => absurd ((chk_one (by omega) hq).symm.trans h) (by decide)⟩, hK⟩)))
      · have hq : kidsB k ls.length = false ∨ numB 1048576 k n = false := .inr (numB_no (by omega))
        refine wp_rs fun _ K35 => F.vl (x_fa0 fa24_0 rfl) fun a F => F.ld m4 flat3 rfl rfl fun a F => F.vl (eqlF (by omega) rfl rfl) fun a F => F.mv rfl fun a F => s_grdn 44 F rfl rfl (by decide) fun a F => s_grdn 44 F rfl rfl (by decide) fun a F => s_grdn 44 F rfl rfl (by decide) fun a F => s_grdn 44 F rfl rfl (by decide) fun a F => s_grdu 48 F rfl rfl (by decide) fun a F => s_grdu 48 F rfl rfl (by decide) fun a F => s_grdu 48 F rfl rfl (by decide) fun a F => s_grdn 44 F rfl rfl (by decide) fun a F => F.vl (x_pick (b := false) rfl rfl) fun a F => F.mv rfl fun a F => s_grd 54 F rfl rfl rfl <| F.vl (x_fa0 fa24_0 rfl) fun a F => s_grd 54 F rfl rfl rfl <| F.ld m4 flat3 rfl rfl fun a F => s_grd 54 F rfl rfl rfl <| F.vl (eqlT (by omega) rfl rfl) fun a F => s_grd 54 F rfl rfl rfl <| F.mv rfl fun a F => s_grd 58 F rfl rfl rfl <| F.vl (x_fa0 fa24_1 rfl) fun a F => s_grd 58 F rfl rfl rfl <| F.ld m4 flat3 rfl rfl fun a F => s_grd 58 F rfl rfl rfl <| F.vl (lssF (by omega) rfl rfl) fun a F => s_grd 58 F rfl rfl rfl <| F.mv rfl fun a F => ?_
        refine s_grd 62 F rfl rfl rfl <| F.vl (x_fa0 fa24_1 rfl) fun a F => s_grd 62 F rfl rfl rfl <| F.ld m4 flat3 rfl rfl fun a F => s_grd 62 F rfl rfl rfl <| F.vl (gtrT (by omega) rfl rfl) fun a F => s_grd 58 F rfl rfl rfl <| F.vl (x_pick (b := false) rfl rfl) fun a F => s_grd 54 F rfl rfl rfl <| F.vl (x_pick (b := true) rfl rfl) fun a F => F.vl (x_pick (b := false) rfl rfl) fun a F => F.sg rfl fun a F => ?_
        refine s_end (K35 _ _ ?_)
        refine wp_if F rfl ?_
        refine wp_rs fun _ K36 => F.sg rfl fun a F => ?_
        refine s_end (K36 _ _ ?_)
        refine wp_ret (inb_ret (then_ret (res_slot F rfl rfl ⟨_, rfl, ⟨int_of (chk_one (by omega) hq).symm, fun h => absurd ((chk_one (by omega) hq).symm.trans h) (by decide)⟩, hK⟩)))
      · have hnb : numB 1048576 k n = true := numB_iff.2 (by omega)
        have hnd := nodeE_iff.2 ⟨hp.1, hp.2, hkl, hnb, (by omega : ¬ (k = 2 ∧ (n < 0 ∨ vars ≤ n)))⟩
        refine wp_rs fun _ K37 => F.vl (x_fa0 fa24_0 rfl) fun a F => F.ld m4 flat3 rfl rfl fun a F => F.vl (eqlF (by omega) rfl rfl) fun a F => F.mv rfl fun a F => s_grdn 44 F rfl rfl (by decide) fun a F => s_grdn 44 F rfl rfl (by decide) fun a F => s_grdn 44 F rfl rfl (by decide) fun a F => s_grdn 44 F rfl rfl (by decide) fun a F => s_grdu 48 F rfl rfl (by decide) fun a F => s_grdu 48 F rfl rfl (by decide) fun a F => s_grdu 48 F rfl rfl (by decide) fun a F => s_grdn 44 F rfl rfl (by decide) fun a F => F.vl (x_pick (b := false) rfl rfl) fun a F => F.mv rfl fun a F => s_grd 54 F rfl rfl rfl <| F.vl (x_fa0 fa24_0 rfl) fun a F => s_grd 54 F rfl rfl rfl <| F.ld m4 flat3 rfl rfl fun a F => s_grd 54 F rfl rfl rfl <| F.vl (eqlT (by omega) rfl rfl) fun a F => s_grd 54 F rfl rfl rfl <| F.mv rfl fun a F => s_grd 58 F rfl rfl rfl <| F.vl (x_fa0 fa24_1 rfl) fun a F => s_grd 58 F rfl rfl rfl <| F.ld m4 flat3 rfl rfl fun a F => s_grd 58 F rfl rfl rfl <| F.vl (lssF (by omega) rfl rfl) fun a F => s_grd 58 F rfl rfl rfl <| F.mv rfl fun a F => ?_
        refine s_grd 62 F rfl rfl rfl <| F.vl (x_fa0 fa24_1 rfl) fun a F => s_grd 62 F rfl rfl rfl <| F.ld m4 flat3 rfl rfl fun a F => s_grd 62 F rfl rfl rfl <| F.vl (gtrF (by omega) rfl rfl) fun a F => s_grd 58 F rfl rfl rfl <| F.vl (x_pick (b := false) rfl rfl) fun a F => s_grd 54 F rfl rfl rfl <| F.vl (x_pick (b := true) rfl rfl) fun a F => F.vl (x_pick (b := false) rfl rfl) fun a F => F.sg rfl fun a F => ?_
        refine s_end (K37 _ _ ?_)
        refine wp_if F rfl ?_
        refine wp_rs fun _ K38 => F.vl (x_fa0 fa24_0 rfl) fun a F => F.ld m4 flat3 rfl rfl fun a F => F.vl (eqlF (by omega) rfl rfl) fun a F => F.mv rfl fun a F => s_grdn 73 F rfl rfl (by decide) fun a F => s_grdn 73 F rfl rfl (by decide) fun a F => s_grdn 73 F rfl rfl (by decide) fun a F => s_grdn 73 F rfl rfl (by decide) fun a F => s_grdu 77 F rfl rfl (by decide) fun a F => s_grdu 77 F rfl rfl (by decide) fun a F => s_grdu 77 F rfl rfl (by decide) fun a F => s_grdu 77 F rfl rfl (by decide) fun a F => s_grdn 73 F rfl rfl (by decide) fun a F => F.vl (x_pick (b := false) rfl rfl) fun a F => F.sg rfl fun a F => ?_
        refine s_end (K38 _ _ ?_)
        refine wp_if F rfl ?_
        refine wp_skip ?_
        exact key3 _ _ hp hkl hnd mg m4 hB hK (F.sub _ rfl)
      · have hnb : numB 1048576 k n = true := numB_iff.2 (by omega)
        refine wp_rs fun _ K39 => F.vl (x_fa0 fa24_0 rfl) fun a F => F.ld m4 flat3 rfl rfl fun a F => F.vl (eqlF (by omega) rfl rfl) fun a F => F.mv rfl fun a F => s_grdn 44 F rfl rfl (by decide) fun a F => s_grdn 44 F rfl rfl (by decide) fun a F => s_grdn 44 F rfl rfl (by decide) fun a F => s_grdn 44 F rfl rfl (by decide) fun a F => s_grdu 48 F rfl rfl (by decide) fun a F => s_grdu 48 F rfl rfl (by decide) fun a F => s_grdu 48 F rfl rfl (by decide) fun a F => s_grdn 44 F rfl rfl (by decide) fun a F => F.vl (x_pick (b := false) rfl rfl) fun a F => F.mv rfl fun a F => s_grd 54 F rfl rfl rfl <| F.vl (x_fa0 fa24_0 rfl) fun a F => s_grd 54 F rfl rfl rfl <| F.ld m4 flat3 rfl rfl fun a F => s_grd 54 F rfl rfl rfl <| F.vl (eqlF (by omega) rfl rfl) fun a F => s_grd 54 F rfl rfl rfl <| F.mv rfl fun a F => s_grdn 58 F rfl rfl (by decide) fun a F => s_grdn 58 F rfl rfl (by decide) fun a F => s_grdn 58 F rfl rfl (by decide) fun a F => s_grdn 58 F rfl rfl (by decide) fun a F => s_grdu 62 F rfl rfl (by decide) fun a F => s_grdu 62 F rfl rfl (by decide) fun a F => s_grdu 62 F rfl rfl (by decide) fun a F => s_grdn 58 F rfl rfl (by decide) fun a F => ?_
        refine s_grd 54 F rfl rfl rfl <| F.vl (x_pick (b := false) rfl rfl) fun a F => F.vl (x_pick (b := false) rfl rfl) fun a F => F.sg rfl fun a F => ?_
        refine s_end (K39 _ _ ?_)
        refine wp_if F rfl ?_
        refine wp_rs fun _ K40 => F.vl (x_fa0 fa24_0 rfl) fun a F => F.ld m4 flat3 rfl rfl fun a F => F.vl (eqlT (by omega) rfl rfl) fun a F => F.mv rfl fun a F => s_grd 73 F rfl rfl rfl <| F.vl (x_fa0 fa24_1 rfl) fun a F => s_grd 73 F rfl rfl rfl <| F.ld m4 flat3 rfl rfl fun a F => s_grd 73 F rfl rfl rfl <| F.vl (lssT (by omega) rfl rfl) fun a F => s_grd 73 F rfl rfl rfl <| F.mv rfl fun a F => s_grdn 77 F rfl rfl (by decide) fun a F => s_grdn 77 F rfl rfl (by decide) fun a F => s_grdn 77 F rfl rfl (by decide) fun a F => s_grdn 77 F rfl rfl (by decide) fun a F => s_grd 73 F rfl rfl rfl <| F.vl (x_pick (b := true) rfl rfl) fun a F => F.vl (x_pick (b := true) rfl rfl) fun a F => F.sg rfl fun a F => ?_
        refine s_end (K40 _ _ ?_)
        refine wp_if F rfl ?_
        refine wp_rs fun _ K41 => F.sg rfl fun a F => ?_
        refine s_end (K41 _ _ ?_)
        refine wp_ret (inb_ret (then_ret (res_slot F rfl rfl ⟨_, rfl, ⟨int_of (chk_ten (by omega) hkl hnb (by omega)).symm, fun h => absurd ((chk_ten (by omega) hkl hnb (by omega)).symm.trans h) (by decide)⟩, hK⟩)))
      · have hnb : numB 1048576 k n = true := numB_iff.2 (by omega)
        refine wp_rs fun _ K42 => F.vl (x_fa0 fa24_0 rfl) fun a F => F.ld m4 flat3 rfl rfl fun a F => F.vl (eqlF (by omega) rfl rfl) fun a F => F.mv rfl fun a F => s_grdn 44 F rfl rfl (by decide) fun a F => s_grdn 44 F rfl rfl (by decide) fun a F => s_grdn 44 F rfl rfl (by decide) fun a F => s_grdn 44 F rfl rfl (by decide) fun a F => s_grdu 48 F rfl rfl (by decide) fun a F => s_grdu 48 F rfl rfl (by decide) fun a F => s_grdu 48 F rfl rfl (by decide) fun a F => s_grdn 44 F rfl rfl (by decide) fun a F => F.vl (x_pick (b := false) rfl rfl) fun a F => F.mv rfl fun a F => s_grd 54 F rfl rfl rfl <| F.vl (x_fa0 fa24_0 rfl) fun a F => s_grd 54 F rfl rfl rfl <| F.ld m4 flat3 rfl rfl fun a F => s_grd 54 F rfl rfl rfl <| F.vl (eqlF (by omega) rfl rfl) fun a F => s_grd 54 F rfl rfl rfl <| F.mv rfl fun a F => s_grdn 58 F rfl rfl (by decide) fun a F => s_grdn 58 F rfl rfl (by decide) fun a F => s_grdn 58 F rfl rfl (by decide) fun a F => s_grdn 58 F rfl rfl (by decide) fun a F => s_grdu 62 F rfl rfl (by decide) fun a F => s_grdu 62 F rfl rfl (by decide) fun a F => s_grdu 62 F rfl rfl (by decide) fun a F => s_grdn 58 F rfl rfl (by decide) fun a F => ?_
        refine s_grd 54 F rfl rfl rfl <| F.vl (x_pick (b := false) rfl rfl) fun a F => F.vl (x_pick (b := false) rfl rfl) fun a F => F.sg rfl fun a F => ?_
        refine s_end (K42 _ _ ?_)
        refine wp_if F rfl ?_
        refine wp_rs fun _ K43 => F.vl (x_fa0 fa24_0 rfl) fun a F => F.ld m4 flat3 rfl rfl fun a F => F.vl (eqlT (by omega) rfl rfl) fun a F => F.mv rfl fun a F => s_grd 73 F rfl rfl rfl <| F.vl (x_fa0 fa24_1 rfl) fun a F => s_grd 73 F rfl rfl rfl <| F.ld m4 flat3 rfl rfl fun a F => s_grd 73 F rfl rfl rfl <| F.vl (lssF (by omega) rfl rfl) fun a F => s_grd 73 F rfl rfl rfl <| F.mv rfl fun a F => s_grd 77 F rfl rfl rfl <| F.vl (x_fa0 fa24_1 rfl) fun a F => s_grd 77 F rfl rfl rfl <| F.ld m4 flat3 rfl rfl fun a F => s_grd 77 F rfl rfl rfl <| F.mv rfl fun a F => s_grd 77 F rfl rfl rfl <| F.vl (geqT (by omega) rfl rfl) fun a F => s_grd 73 F rfl rfl rfl <| F.vl (x_pick (b := false) rfl rfl) fun a F => F.vl (x_pick (b := true) rfl rfl) fun a F => F.sg rfl fun a F => ?_
        refine s_end (K43 _ _ ?_)
        refine wp_if F rfl ?_
        refine wp_rs fun _ K44 => F.sg rfl fun a F => ?_
        refine s_end (K44 _ _ ?_)
        refine wp_ret (inb_ret (then_ret (res_slot F rfl rfl ⟨_, rfl, ⟨int_of (chk_ten (by omega) hkl hnb (by omega)).symm, fun h => absurd ((chk_ten (by omega) hkl hnb (by omega)).symm.trans h) (by decide)⟩, hK⟩)))
      · have hnb : numB 1048576 k n = true := numB_iff.2 (by omega)
        have hnd := nodeE_iff.2 ⟨hp.1, hp.2, hkl, hnb, (by omega : ¬ (k = 2 ∧ (n < 0 ∨ vars ≤ n)))⟩
        refine wp_rs fun _ K45 => F.vl (x_fa0 fa24_0 rfl) fun a F => F.ld m4 flat3 rfl rfl fun a F => F.vl (eqlF (by omega) rfl rfl) fun a F => F.mv rfl fun a F => s_grdn 44 F rfl rfl (by decide) fun a F => s_grdn 44 F rfl rfl (by decide) fun a F => s_grdn 44 F rfl rfl (by decide) fun a F => s_grdn 44 F rfl rfl (by decide) fun a F => s_grdu 48 F rfl rfl (by decide) fun a F => s_grdu 48 F rfl rfl (by decide) fun a F => s_grdu 48 F rfl rfl (by decide) fun a F => s_grdn 44 F rfl rfl (by decide) fun a F => F.vl (x_pick (b := false) rfl rfl) fun a F => F.mv rfl fun a F => s_grd 54 F rfl rfl rfl <| F.vl (x_fa0 fa24_0 rfl) fun a F => s_grd 54 F rfl rfl rfl <| F.ld m4 flat3 rfl rfl fun a F => s_grd 54 F rfl rfl rfl <| F.vl (eqlF (by omega) rfl rfl) fun a F => s_grd 54 F rfl rfl rfl <| F.mv rfl fun a F => s_grdn 58 F rfl rfl (by decide) fun a F => s_grdn 58 F rfl rfl (by decide) fun a F => s_grdn 58 F rfl rfl (by decide) fun a F => s_grdn 58 F rfl rfl (by decide) fun a F => s_grdu 62 F rfl rfl (by decide) fun a F => s_grdu 62 F rfl rfl (by decide) fun a F => s_grdu 62 F rfl rfl (by decide) fun a F => s_grdn 58 F rfl rfl (by decide) fun a F => ?_
        refine s_grd 54 F rfl rfl rfl <| F.vl (x_pick (b := false) rfl rfl) fun a F => F.vl (x_pick (b := false) rfl rfl) fun a F => F.sg rfl fun a F => ?_
        refine s_end (K45 _ _ ?_)
        refine wp_if F rfl ?_
        refine wp_rs fun _ K46 => F.vl (x_fa0 fa24_0 rfl) fun a F => F.ld m4 flat3 rfl rfl fun a F => F.vl (eqlT (by omega) rfl rfl) fun a F => F.mv rfl fun a F => s_grd 73 F rfl rfl rfl <| F.vl (x_fa0 fa24_1 rfl) fun a F => s_grd 73 F rfl rfl rfl <| F.ld m4 flat3 rfl rfl fun a F => s_grd 73 F rfl rfl rfl <| F.vl (lssF (by omega) rfl rfl) fun a F => s_grd 73 F rfl rfl rfl <| F.mv rfl fun a F => s_grd 77 F rfl rfl rfl <| F.vl (x_fa0 fa24_1 rfl) fun a F => s_grd 77 F rfl rfl rfl <| F.ld m4 flat3 rfl rfl fun a F => s_grd 77 F rfl rfl rfl <| F.mv rfl fun a F => s_grd 77 F rfl rfl rfl <| F.vl (geqF (by omega) rfl rfl) fun a F => s_grd 73 F rfl rfl rfl <| F.vl (x_pick (b := false) rfl rfl) fun a F => F.vl (x_pick (b := true) rfl rfl) fun a F => F.sg rfl fun a F => ?_
        refine s_end (K46 _ _ ?_)
        refine wp_if F rfl ?_
        refine wp_skip ?_
        exact key3 _ _ hp hkl hnd mg m4 hB hK (F.sub _ rfl)
      · have hnb : numB 1048576 k n = true := numB_iff.2 (by omega)
        have hnd := nodeE_iff.2 ⟨hp.1, hp.2, hkl, hnb, (by omega : ¬ (k = 2 ∧ (n < 0 ∨ vars ≤ n)))⟩
        refine wp_rs fun _ K47 => F.vl (x_fa0 fa24_0 rfl) fun a F => F.ld m4 flat3 rfl rfl fun a F => F.vl (eqlF (by omega) rfl rfl) fun a F => F.mv rfl fun a F => s_grdn 44 F rfl rfl (by decide) fun a F => s_grdn 44 F rfl rfl (by decide) fun a F => s_grdn 44 F rfl rfl (by decide) fun a F => s_grdn 44 F rfl rfl (by decide) fun a F => s_grdu 48 F rfl rfl (by decide) fun a F => s_grdu 48 F rfl rfl (by decide) fun a F => s_grdu 48 F rfl rfl (by decide) fun a F => s_grdn 44 F rfl rfl (by decide) fun a F => F.vl (x_pick (b := false) rfl rfl) fun a F => F.mv rfl fun a F => s_grd 54 F rfl rfl rfl <| F.vl (x_fa0 fa24_0 rfl) fun a F => s_grd 54 F rfl rfl rfl <| F.ld m4 flat3 rfl rfl fun a F => s_grd 54 F rfl rfl rfl <| F.vl (eqlF (by omega) rfl rfl) fun a F => s_grd 54 F rfl rfl rfl <| F.mv rfl fun a F => s_grdn 58 F rfl rfl (by decide) fun a F => s_grdn 58 F rfl rfl (by decide) fun a F => s_grdn 58 F rfl rfl (by decide) fun a F => s_grdn 58 F rfl rfl (by decide) fun a F => s_grdu 62 F rfl rfl (by decide) fun a F => s_grdu 62 F rfl rfl (by decide) fun a F => s_grdu 62 F rfl rfl (by decide) fun a F => s_grdn 58 F rfl rfl (by decide) fun a F => ?_
        refine s_grd 54 F rfl rfl rfl <| F.vl (x_pick (b := false) rfl rfl) fun a F => F.vl (x_pick (b := false) rfl rfl) fun a F => F.sg rfl fun a F => ?_
        refine s_end (K47 _ _ ?_)
        refine wp_if F rfl ?_
        refine wp_rs fun _ K48 => F.vl (x_fa0 fa24_0 rfl) fun a F => F.ld m4 flat3 rfl rfl fun a F => F.vl (eqlF (by omega) rfl rfl) fun a F => F.mv rfl fun a F => s_grdn 73 F rfl rfl (by decide) fun a F => s_grdn 73 F rfl rfl (by decide) fun a F => s_grdn 73 F rfl rfl (by decide) fun a F => s_grdn 73 F rfl rfl (by decide) fun a F => s_grdu 77 F rfl rfl (by decide) fun a F => s_grdu 77 F rfl rfl (by decide) fun a F => s_grdu 77 F rfl rfl (by decide) fun a F => s_grdu 77 F rfl rfl (by decide) fun a F => s_grdn 73 F rfl rfl (by decide) fun a F => F.vl (x_pick (b := false) rfl rfl) fun a F => F.sg rfl fun a F => ?_
        refine s_end (K48 _ _ ?_)
        refine wp_if F rfl ?_
        refine wp_skip ?_
        exact key3 _ _ hp hkl hnd mg m4 hB hK (F.sub _ rfl)
theorem rmay14 (x : C3) (l : Lv) (vars : Int) (w0 : World) (hL : RL w0 x l) : Calls Try.prog 28 #[lv x, .int .i64 vars] w0 fun e w' => e = .returned (.int .i64 (chk 32 1048576 vars 1 100 l).1) ∧ Below w0.heap.size w0 w' := by
 have hB := Below.refl w0.heap.size w0
 have sB := hB.size
 refine calls_fs 9 [(0, lv x), (1, .int .i64 vars)] Try.func28 rfl rfl rfl rfl rfl fun a F => ?_
 refine wp_rs fun _ K1 => ?_
 refine s_box (lc x) F (by decide) rfl rfl fun w2 b2 a eb2 m2 B3 zb2 F => ?_
 have sB3 := B3.size
 have hB := bt hB B3
 refine F.sg rfl fun a F => ?_
 refine s_end (K1 _ _ ?_)
 refine wp_rs fun _ K2 => ?_
 refine s_alloc1 F (by decide) zero3 rfl fun w4 b5 a eb5 m5 B5 zb5 F => ?_
 have sB5 := B5.size
 have hB := bt hB B5
 have m2 := m2.old B5
 refine s_put F rfl rfl flat3 m5 (by first | (simp; done) | (show _ < 3; decide)) rfl fun w6 m5 o7 => ?_
 have so7 := o7.size
 have hB := hB.trans (o7.below (by omega))
 have m2 := m2.only o7 (by omega)
 refine s_end (K2 _ _ ?_)
 refine wp_rs fun K3 hK3 => F.vl (x_ldW wide24 m2 rfl rfl) fun a F => F.mv rfl fun a F => ?_
 refine s_call (R := fun u w' => (u = .int .i64 (chk 32 1048576 vars 1 100 l).1 ∧ ((chk 32 1048576 vars 1 100 l).1 = 0 → Blk w' b5 3 [.int .i64 (100 - ((chk 32 1048576 vars 1 100 l).2 : Int))])) ∧ Ktw b5 b5 w6 w') F [_, _, _, _] E68 rfl (by decide) (rmay35 vars w0 b5 (by omega) x l hL 1 100 w6 (by decide) (by decide) (by decide) hB m5) ?_
 rintro _ w8 a ⟨⟨rfl, _⟩, k9⟩ F
 have sk9 := k9.size
 have hB := k9.under hB (by omega)
 refine F.sg rfl fun a F => ?_
 refine s_end (hK3 _ _ ?_)
 refine wp_ret (res_slot F rfl rfl ⟨rfl, hB⟩)
end Go.Proofs.Ytbhhbfdoadecgaa

namespace Go.Proofs.Ytbhhbfdoadecgaa
set_option maxRecDepth 100000
set_option maxHeartbeats 1600000
open Go.RowKit Go.Shelf
set_option linter.unusedVariables false
set_option linter.unusedSimpArgs false
theorem chk_no {D top vars d : Int} {r : Nat} {k n : Int} {ls : List Lv} (h : nodeE D top vars d r k n ls.length ≠ 0) : (chk D top vars d r (.mk k n ls)).1 ≠ 0 := by rw [chk_out h]; exact h
theorem node_two {D top vars d : Int} {r : Nat} {k n : Int} {len : Nat} (h : D < d ∨ r = 0) : nodeE D top vars d r k n len ≠ 0 := fun h1 => by have := nodeE_iff.1 h1; omega
theorem node_kid {D top vars d : Int} {r : Nat} {k n : Int} {len : Nat} (h : arI k < 0 ∨ (len : Int) ≠ arI k) : nodeE D top vars d r k n len ≠ 0 := fun h1 => by
 have := (nodeE_iff.1 h1).2.2.1
 rw [arI_no h] at this
 cases this
theorem node_num {D top vars d : Int} {r : Nat} {k n : Int} {len : Nat} (h : ¬ ((k = 1 → 0 ≤ n ∧ n ≤ top) ∧ (k = 3 → 1 ≤ n ∧ n ≤ top))) : nodeE D top vars d r k n len ≠ 0 := fun h1 => h (numB_iff.1 (nodeE_iff.1 h1).2.2.2.1)
theorem node_var {D top vars d : Int} {r : Nat} {k n : Int} {len : Nat} (h : k = 2 ∧ (n < 0 ∨ vars ≤ n)) : nodeE D top vars d r k n len ≠ 0 := fun h1 => (nodeE_iff.1 h1).2.2.2.2 h
theorem nil_of_kids {k : Int} {ls : List Lv} (h : kidsB k ls.length = true) (hk : k = 1 ∨ k = 2) : ls = [] := List.eq_nil_of_length_eq_zero (by have := kidsB_iff.1 h; omega)
theorem bool_of {p : Prop} [Decidable p] {b : Bool} (h : b = decide p) : Value.bool b = Value.bool (decide p) := by rw [h]
theorem rsound39 (w0 : World) (g : Nat) (hg : w0.heap.size ≤ g) : ∀ (x : C3) (l : Lv), RL w0 x l → ∀ (d : Int) (r : Nat) (w1 : World), 1 ≤ d → d ≤ 300 → r ≤ 1000 → Below w0.heap.size w0 w1 → Blk w1 g 3 [.int .i64 (1000 - (r : Int))] →
    Calls Try.prog 91 #[lv x, .int .i64 d, .pointer (some ⟨g, 0, none⟩)] w1 fun e w' => ∃ v, e = .returned v ∧ (v = .bool (decide ((chk 256 1099511627776 1001 d r l).1 = 0)) ∧ ((chk 256 1099511627776 1001 d r l).1 = 0 → Blk w' g 3 [.int .i64 (1000 - ((chk 256 1099511627776 1001 d r l).2 : Int))])) ∧ Ktw g g w1 w' := by
  intro x l h
  induction h with
  | @mk k n v xs ls hR hl hk hbd9 ih =>
  intro d r w1 hd1 hd2 hr hB mg
  obtain ⟨av, cv, rfl, _⟩ := hR.form
  have hK := Ktw.refl g g w1
  have sB := hB.size
  have hgl := mg.lt
  refine calls_fs 83 [(0, .agg [.int .i64 k, .int .i64 n, .slice av xs.length cv].toArray), (1, .int .i64 d), (2, .pointer (some ⟨g, 0, none⟩))] Try.func91 rfl rfl rfl rfl rfl fun a F => ?_
  refine wp_rs fun _ K1 => ?_
  refine s_box ([.int .i64 k, .int .i64 n, .slice av xs.length cv]) F (by decide) rfl rfl fun w2 b3 a eb3 m3 B3 zb3 F => ?_
  have sB3 := B3.size
  have hB := bt hB B3
  have hK := hK.below B3
  have mg := mg.old B3
  refine F.sg rfl fun a F => ?_
  refine s_end (K1 _ _ ?_)
  refine wp_rs fun _ K2 => F.mv rfl fun a F => F.vl (x_nil rfl) fun a F => F.ld mg flat3 rfl rfl fun a F => F.vl (x_add (by omega) (by omega) rfl rfl) fun a F => F.vl (x_nil rfl) fun a F => ?_
  refine s_put F rfl rfl flat3 mg (by simp) rfl fun w4 mg o5 => ?_
  have so5 := o5.size
  have hB := hB.trans (o5.below (by omega))
  have hK := hK.only o5 (by omega)
  have m3 := m3.only o5 (by omega)
  refine s_end (K2 _ _ ?_)
  refine wp_seq_k fun _ K3 => ?_
  rcases (show 256 < d ∨ (d ≤ 256 ∧ r = 0) ∨ (d ≤ 256 ∧ r ≠ 0 ∧ arI k < 0) ∨ (d ≤ 256 ∧ r ≠ 0 ∧ 0 ≤ arI k ∧ (xs.length : Int) ≠ arI k) ∨ (d ≤ 256 ∧ r ≠ 0 ∧ 0 ≤ arI k ∧ (xs.length : Int) = arI k) by omega) with hp | hp | hp | hp | hp
  · skip
    refine dk2_seq (w4.heap.size) (w4.heap.size) (ops := regOps Try.f91 2) (N := 23) (by kernel_rfl) wide_orders (by kernel_rfl) fun w6 hw6 B7 hS K5 hK5 => ?_
    have zw6 : w6.heap.size = w4.heap.size := by rw [hw6]
    have sB7 := B7.size
    have hB := bt hB B7
    have hK := hK.below B7
    have mg := mg.old B7
    have m3 := m3.old B7
    have mg_d := mg
    have m3_d := m3
    have hB_d := hB
    have hK_d := hK
    refine F.dv 0 14 (.move (.tmp 1)) hS (fun W hW => x_move rfl) fun a F => F.dv 1 15 (.binOp .gtr 3 (.tmp 14) (.const (.int .i64 256)) 3) hS (fun W hW => gtrT (by omega) rfl rfl) fun a F => F.dv 2 16 (.move (.tmp 15)) hS (fun W hW => x_move rfl) fun a F => d_skip 3 17 16 (j := 2) (want := false) (op := (.move (.tmp 2))) F hS (by kernel_rfl) (by kernel_rfl) rfl (by kernel_rfl) (by decide) fun a F => d_skip 4 18 16 (j := 2) (want := false) (op := (.nilCheck (.tmp 17))) F hS (by kernel_rfl) (by kernel_rfl) rfl (by kernel_rfl) (by decide) fun a F => d_skip 5 19 16 (j := 2) (want := false) (op := (.load 3 (.tmp 18))) F hS (by kernel_rfl) (by kernel_rfl) rfl (by kernel_rfl) (by decide) fun a F => d_skip 6 20 16 (j := 2) (want := false) (op := (.binOp .gtr 3 (.tmp 19) (.const (.int .i64 1000)) 3)) F hS (by kernel_rfl) (by kernel_rfl) rfl (by kernel_rfl) (by decide) fun a F => F.dv 7 21 (.pick (.tmp 16) (.const (.bool true)) (.tmp 20)) hS (fun W hW => x_pick (b := true) rfl rfl) fun a F => F.dv 8 22 (.move (.tmp 21)) hS (fun W hW => x_move rfl) fun a F => d_skip 9 23 22 (j := 8) (want := false) (op := (.fieldAddr 24 (.tmp 3) 0)) F hS (by kernel_rfl) (by kernel_rfl) rfl (by kernel_rfl) (by decide) fun a F => d_skip 10 24 22 (j := 8) (want := false) (op := (.load 3 (.tmp 23))) F hS (by kernel_rfl) (by kernel_rfl) rfl (by kernel_rfl) (by decide) fun a F => d_skip 11 25 22 (j := 8) (want := false) (op := (.call (.mk (.value (.func 113)) #[(.tmp 24)] #[3]))) F hS (by kernel_rfl) (by kernel_rfl) rfl (by kernel_rfl) (by decide) fun a F => d_skip 12 26 22 (j := 8) (want := false) (op := (.binOp .lss 3 (.tmp 25) (.const (.int .i64 0)) 3)) F hS (by kernel_rfl) (by kernel_rfl) rfl (by kernel_rfl) (by decide) fun a F => F.dv 13 27 (.pick (.tmp 22) (.const (.bool true)) (.tmp 26)) hS (fun W hW => x_pick (b := true) rfl rfl) fun a F => F.dv 14 28 (.move (.tmp 27)) hS (fun W hW => x_move rfl) fun a F => d_skip 15 29 28 (j := 14) (want := false) (op := (.fieldAddr 24 (.tmp 3) 2)) F hS (by kernel_rfl) (by kernel_rfl) rfl (by kernel_rfl) (by decide) fun a F => d_skip 16 30 28 (j := 14) (want := false) (op := (.load 22 (.tmp 29))) F hS (by kernel_rfl) (by kernel_rfl) rfl (by kernel_rfl) (by decide) fun a F => d_skip 17 31 28 (j := 14) (want := false) (op := (.call (.mk (.builtin .len) #[(.tmp 30)] #[22]))) F hS (by kernel_rfl) (by kernel_rfl) rfl (by kernel_rfl) (by decide) fun a F => d_skip 18 32 28 (j := 14) (want := false) (op := (.fieldAddr 24 (.tmp 3) 0)) F hS (by kernel_rfl) (by kernel_rfl) rfl (by kernel_rfl) (by decide) fun a F => d_skip 19 33 28 (j := 14) (want := false) (op := (.load 3 (.tmp 32))) F hS (by kernel_rfl) (by kernel_rfl) rfl (by kernel_rfl) (by decide) fun a F => d_skip 20 34 28 (j := 14) (want := false) (op := (.call (.mk (.value (.func 113)) #[(.tmp 33)] #[3]))) F hS (by kernel_rfl) (by kernel_rfl) rfl (by kernel_rfl) (by decide) fun a F => d_skip 21 35 28 (j := 14) (want := false) (op := (.binOp .neq 3 (.tmp 31) (.tmp 34) 3)) F hS (by kernel_rfl) (by kernel_rfl) rfl (by kernel_rfl) (by decide) fun a F => F.dv 22 36 (.pick (.tmp 28) (.const (.bool true)) (.tmp 35)) hS (fun W hW => x_pick (b := true) rfl rfl) fun a F => ?_
    refine d_end (by kernel_rfl) (hK5 _ _ ?_)
    refine wp_if F rfl ?_
    refine wp_rs fun _ K6 => F.sg rfl fun a F => ?_
    refine s_end (K6 _ _ ?_)
    refine wp_ret (then_ret (res_slot F rfl rfl ⟨_, rfl, ⟨bool_of (decide_eq_false (chk_no (node_two (by omega)))).symm, fun h => absurd h (chk_no (node_two (by omega)))⟩, hK⟩))
  · skip
    refine dk2_seq (w4.heap.size) (w4.heap.size) (ops := regOps Try.f91 2) (N := 23) (by kernel_rfl) wide_orders (by kernel_rfl) fun w8 hw8 B9 hS K7 hK7 => ?_
    have zw8 : w8.heap.size = w4.heap.size := by rw [hw8]
    have sB9 := B9.size
    have hB := bt hB B9
    have hK := hK.below B9
    have mg := mg.old B9
    have m3 := m3.old B9
    have mg_d := mg
    have m3_d := m3
    have hB_d := hB
    have hK_d := hK
    refine F.dv 0 14 (.move (.tmp 1)) hS (fun W hW => x_move rfl) fun a F => F.dv 1 15 (.binOp .gtr 3 (.tmp 14) (.const (.int .i64 256)) 3) hS (fun W hW => gtrF (by omega) rfl rfl) fun a F => F.dv 2 16 (.move (.tmp 15)) hS (fun W hW => x_move rfl) fun a F => F.dg 3 17 16 2 false (.move (.tmp 2)) hS rfl (fun W hW => x_move rfl) fun a F => F.dg 4 18 16 2 false (.nilCheck (.tmp 17)) hS rfl (fun W hW => x_nil rfl) fun a F => F.dg 5 19 16 2 false (.load 3 (.tmp 18)) hS rfl (fun W hW => x_load rfl (m_load flat3 ((mg_d.k2 hW (by omega)).cell (j := 0) rfl))) fun a F => F.dg 6 20 16 2 false (.binOp .gtr 3 (.tmp 19) (.const (.int .i64 1000)) 3) hS rfl (fun W hW => gtrT (by omega) rfl rfl) fun a F => F.dv 7 21 (.pick (.tmp 16) (.const (.bool true)) (.tmp 20)) hS (fun W hW => x_pick (b := false) rfl rfl) fun a F => F.dv 8 22 (.move (.tmp 21)) hS (fun W hW => x_move rfl) fun a F => d_skip 9 23 22 (j := 8) (want := false) (op := (.fieldAddr 24 (.tmp 3) 0)) F hS (by kernel_rfl) (by kernel_rfl) rfl (by kernel_rfl) (by decide) fun a F => d_skip 10 24 22 (j := 8) (want := false) (op := (.load 3 (.tmp 23))) F hS (by kernel_rfl) (by kernel_rfl) rfl (by kernel_rfl) (by decide) fun a F => d_skip 11 25 22 (j := 8) (want := false) (op := (.call (.mk (.value (.func 113)) #[(.tmp 24)] #[3]))) F hS (by kernel_rfl) (by kernel_rfl) rfl (by kernel_rfl) (by decide) fun a F => d_skip 12 26 22 (j := 8) (want := false) (op := (.binOp .lss 3 (.tmp 25) (.const (.int .i64 0)) 3)) F hS (by kernel_rfl) (by kernel_rfl) rfl (by kernel_rfl) (by decide) fun a F => F.dv 13 27 (.pick (.tmp 22) (.const (.bool true)) (.tmp 26)) hS (fun W hW => x_pick (b := true) rfl rfl) fun a F => F.dv 14 28 (.move (.tmp 27)) hS (fun W hW => x_move rfl) fun a F => d_skip 15 29 28 (j := 14) (want := false) (op := (.fieldAddr 24 (.tmp 3) 2)) F hS (by kernel_rfl) (by kernel_rfl) rfl (by kernel_rfl) (by decide) fun a F => d_skip 16 30 28 (j := 14) (want := false) (op := (.load 22 (.tmp 29))) F hS (by kernel_rfl) (by kernel_rfl) rfl (by kernel_rfl) (by decide) fun a F => d_skip 17 31 28 (j := 14) (want := false) (op := (.call (.mk (.builtin .len) #[(.tmp 30)] #[22]))) F hS (by kernel_rfl) (by kernel_rfl) rfl (by kernel_rfl) (by decide) fun a F => d_skip 18 32 28 (j := 14) (want := false) (op := (.fieldAddr 24 (.tmp 3) 0)) F hS (by kernel_rfl) (by kernel_rfl) rfl (by kernel_rfl) (by decide) fun a F => d_skip 19 33 28 (j := 14) (want := false) (op := (.load 3 (.tmp 32))) F hS (by kernel_rfl) (by kernel_rfl) rfl (by kernel_rfl) (by decide) fun a F => d_skip 20 34 28 (j := 14) (want := false) (op := (.call (.mk (.value (.func 113)) #[(.tmp 33)] #[3]))) F hS (by kernel_rfl) (by kernel_rfl) rfl (by kernel_rfl) (by decide) fun a F => d_skip 21 35 28 (j := 14) (want := false) (op := (.binOp .neq 3 (.tmp 31) (.tmp 34) 3)) F hS (by kernel_rfl) (by kernel_rfl) rfl (by kernel_rfl) (by decide) fun a F => F.dv 22 36 (.pick (.tmp 28) (.const (.bool true)) (.tmp 35)) hS (fun W hW => x_pick (b := true) rfl rfl) fun a F => ?_
    refine d_end (by kernel_rfl) (hK7 _ _ ?_)
    refine wp_if F rfl ?_
    refine wp_rs fun _ K8 => F.sg rfl fun a F => ?_
    refine s_end (K8 _ _ ?_)
    refine wp_ret (then_ret (res_slot F rfl rfl ⟨_, rfl, ⟨bool_of (decide_eq_false (chk_no (node_two (by omega)))).symm, fun h => absurd h (chk_no (node_two (by omega)))⟩, hK⟩))
  · skip
    refine dk2_seq (w4.heap.size) (w4.heap.size) (ops := regOps Try.f91 2) (N := 23) (by kernel_rfl) wide_orders (by kernel_rfl) fun w10 hw10 B11 hS K9 hK9 => ?_
    have zw10 : w10.heap.size = w4.heap.size := by rw [hw10]
    have sB11 := B11.size
    have hB := bt hB B11
    have hK := hK.below B11
    have mg := mg.old B11
    have m3 := m3.old B11
    have mg_d := mg
    have m3_d := m3
    have hB_d := hB
    have hK_d := hK
    refine F.dv 0 14 (.move (.tmp 1)) hS (fun W hW => x_move rfl) fun a F => F.dv 1 15 (.binOp .gtr 3 (.tmp 14) (.const (.int .i64 256)) 3) hS (fun W hW => gtrF (by omega) rfl rfl) fun a F => F.dv 2 16 (.move (.tmp 15)) hS (fun W hW => x_move rfl) fun a F => F.dg 3 17 16 2 false (.move (.tmp 2)) hS rfl (fun W hW => x_move rfl) fun a F => F.dg 4 18 16 2 false (.nilCheck (.tmp 17)) hS rfl (fun W hW => x_nil rfl) fun a F => F.dg 5 19 16 2 false (.load 3 (.tmp 18)) hS rfl (fun W hW => x_load rfl (m_load flat3 ((mg_d.k2 hW (by omega)).cell (j := 0) rfl))) fun a F => F.dg 6 20 16 2 false (.binOp .gtr 3 (.tmp 19) (.const (.int .i64 1000)) 3) hS rfl (fun W hW => gtrF (by omega) rfl rfl) fun a F => F.dv 7 21 (.pick (.tmp 16) (.const (.bool true)) (.tmp 20)) hS (fun W hW => x_pick (b := false) rfl rfl) fun a F => F.dv 8 22 (.move (.tmp 21)) hS (fun W hW => x_move rfl) fun a F => F.dg 9 23 22 8 false (.fieldAddr 24 (.tmp 3) 0) hS rfl (fun W hW => x_fa0 fa24_0 rfl) fun a F => F.dg 10 24 22 8 false (.load 3 (.tmp 23)) hS rfl (fun W hW => x_load rfl (m_load flat3 ((m3_d.k2 hW (by omega)).cell (j := 0) rfl))) fun a F => ?_
    refine d_oneg 11 22 (some 25) (.call (.mk (.value (.func 113)) #[(.tmp 24)] #[3])) (j := 8) (want := false) F (by kernel_rfl) (by kernel_rfl) (by kernel_rfl) rfl fun ty pos af => ?_
    refine s_callS [.int .i64 k] F E113 rfl (by decide) (arity58 k _) fun a F => ?_
    refine s_end ⟨hS, ?_⟩
    refine F.dg 12 26 22 8 false (.binOp .lss 3 (.tmp 25) (.const (.int .i64 0)) 3) hS rfl (fun W hW => lssT (by omega) rfl rfl) fun a F => F.dv 13 27 (.pick (.tmp 22) (.const (.bool true)) (.tmp 26)) hS (fun W hW => x_pick (b := false) rfl rfl) fun a F => F.dv 14 28 (.move (.tmp 27)) hS (fun W hW => x_move rfl) fun a F => d_skip 15 29 28 (j := 14) (want := false) (op := (.fieldAddr 24 (.tmp 3) 2)) F hS (by kernel_rfl) (by kernel_rfl) rfl (by kernel_rfl) (by decide) fun a F => d_skip 16 30 28 (j := 14) (want := false) (op := (.load 22 (.tmp 29))) F hS (by kernel_rfl) (by kernel_rfl) rfl (by kernel_rfl) (by decide) fun a F => d_skip 17 31 28 (j := 14) (want := false) (op := (.call (.mk (.builtin .len) #[(.tmp 30)] #[22]))) F hS (by kernel_rfl) (by kernel_rfl) rfl (by kernel_rfl) (by decide) fun a F => d_skip 18 32 28 (j := 14) (want := false) (op := (.fieldAddr 24 (.tmp 3) 0)) F hS (by kernel_rfl) (by kernel_rfl) rfl (by kernel_rfl) (by decide) fun a F => d_skip 19 33 28 (j := 14) (want := false) (op := (.load 3 (.tmp 32))) F hS (by kernel_rfl) (by kernel_rfl) rfl (by kernel_rfl) (by decide) fun a F => d_skip 20 34 28 (j := 14) (want := false) (op := (.call (.mk (.value (.func 113)) #[(.tmp 33)] #[3]))) F hS (by kernel_rfl) (by kernel_rfl) rfl (by kernel_rfl) (by decide) fun a F => d_skip 21 35 28 (j := 14) (want := false) (op := (.binOp .neq 3 (.tmp 31) (.tmp 34) 3)) F hS (by kernel_rfl) (by kernel_rfl) rfl (by kernel_rfl) (by decide) fun a F => F.dv 22 36 (.pick (.tmp 28) (.const (.bool true)) (.tmp 35)) hS (fun W hW => x_pick (b := true) rfl rfl) fun a F => ?_
    refine d_end (by kernel_rfl) (hK9 _ _ ?_)
    refine wp_if F rfl ?_
    refine wp_rs fun _ K10 => F.sg rfl fun a F => ?_
    refine s_end (K10 _ _ ?_)
    refine wp_ret (then_ret (res_slot F rfl rfl ⟨_, rfl, ⟨bool_of (decide_eq_false (chk_no (node_kid (by omega)))).symm, fun h => absurd h (chk_no (node_kid (by omega)))⟩, hK⟩))
  · skip
    refine dk2_seq (w4.heap.size) (w4.heap.size) (ops := regOps Try.f91 2) (N := 23) (by kernel_rfl) wide_orders (by kernel_rfl) fun w12 hw12 B13 hS K11 hK11 => ?_
    have zw12 : w12.heap.size = w4.heap.size := by rw [hw12]
    have sB13 := B13.size
    have hB := bt hB B13
    have hK := hK.below B13
    have mg := mg.old B13
    have m3 := m3.old B13
    have mg_d := mg
    have m3_d := m3
    have hB_d := hB
    have hK_d := hK
    refine F.dv 0 14 (.move (.tmp 1)) hS (fun W hW => x_move rfl) fun a F => F.dv 1 15 (.binOp .gtr 3 (.tmp 14) (.const (.int .i64 256)) 3) hS (fun W hW => gtrF (by omega) rfl rfl) fun a F => F.dv 2 16 (.move (.tmp 15)) hS (fun W hW => x_move rfl) fun a F => F.dg 3 17 16 2 false (.move (.tmp 2)) hS rfl (fun W hW => x_move rfl) fun a F => F.dg 4 18 16 2 false (.nilCheck (.tmp 17)) hS rfl (fun W hW => x_nil rfl) fun a F => F.dg 5 19 16 2 false (.load 3 (.tmp 18)) hS rfl (fun W hW => x_load rfl (m_load flat3 ((mg_d.k2 hW (by omega)).cell (j := 0) rfl))) fun a F => F.dg 6 20 16 2 false (.binOp .gtr 3 (.tmp 19) (.const (.int .i64 1000)) 3) hS rfl (fun W hW => gtrF (by omega) rfl rfl) fun a F => F.dv 7 21 (.pick (.tmp 16) (.const (.bool true)) (.tmp 20)) hS (fun W hW => x_pick (b := false) rfl rfl) fun a F => F.dv 8 22 (.move (.tmp 21)) hS (fun W hW => x_move rfl) fun a F => F.dg 9 23 22 8 false (.fieldAddr 24 (.tmp 3) 0) hS rfl (fun W hW => x_fa0 fa24_0 rfl) fun a F => F.dg 10 24 22 8 false (.load 3 (.tmp 23)) hS rfl (fun W hW => x_load rfl (m_load flat3 ((m3_d.k2 hW (by omega)).cell (j := 0) rfl))) fun a F => ?_
    refine d_oneg 11 22 (some 25) (.call (.mk (.value (.func 113)) #[(.tmp 24)] #[3])) (j := 8) (want := false) F (by kernel_rfl) (by kernel_rfl) (by kernel_rfl) rfl fun ty pos af => ?_
    refine s_callS [.int .i64 k] F E113 rfl (by decide) (arity58 k _) fun a F => ?_
    refine s_end ⟨hS, ?_⟩
    refine F.dg 12 26 22 8 false (.binOp .lss 3 (.tmp 25) (.const (.int .i64 0)) 3) hS rfl (fun W hW => lssF (by omega) rfl rfl) fun a F => F.dv 13 27 (.pick (.tmp 22) (.const (.bool true)) (.tmp 26)) hS (fun W hW => x_pick (b := false) rfl rfl) fun a F => F.dv 14 28 (.move (.tmp 27)) hS (fun W hW => x_move rfl) fun a F => F.dg 15 29 28 14 false (.fieldAddr 24 (.tmp 3) 2) hS rfl (fun W hW => x_fa0 fa24_2 rfl) fun a F => F.dg 16 30 28 14 false (.load 22 (.tmp 29)) hS rfl (fun W hW => x_load rfl (m_load flat22 ((m3_d.k2 hW (by omega)).cell (j := 2) rfl))) fun a F => F.dg 17 31 28 14 false (.call (.mk (.builtin .len) #[(.tmp 30)] #[22])) hS rfl (fun W hW => x_len Try.underlying22 rfl) fun a F => F.dg 18 32 28 14 false (.fieldAddr 24 (.tmp 3) 0) hS rfl (fun W hW => x_fa0 fa24_0 rfl) fun a F => F.dg 19 33 28 14 false (.load 3 (.tmp 32)) hS rfl (fun W hW => x_load rfl (m_load flat3 ((m3_d.k2 hW (by omega)).cell (j := 0) rfl))) fun a F => ?_
    refine d_oneg 20 28 (some 34) (.call (.mk (.value (.func 113)) #[(.tmp 33)] #[3])) (j := 14) (want := false) F (by kernel_rfl) (by kernel_rfl) (by kernel_rfl) rfl fun ty pos af => ?_
    refine s_callS [.int .i64 k] F E113 rfl (by decide) (arity58 k _) fun a F => ?_
    refine s_end ⟨hS, ?_⟩
    refine F.dg 21 35 28 14 false (.binOp .neq 3 (.tmp 31) (.tmp 34) 3) hS rfl (fun W hW => neqT (by omega) rfl rfl) fun a F => F.dv 22 36 (.pick (.tmp 28) (.const (.bool true)) (.tmp 35)) hS (fun W hW => x_pick (b := false) rfl rfl) fun a F => ?_
    refine d_end (by kernel_rfl) (hK11 _ _ ?_)
    refine wp_if F rfl ?_
    refine wp_rs fun _ K12 => F.sg rfl fun a F => ?_
    refine s_end (K12 _ _ ?_)
    refine wp_ret (then_ret (res_slot F rfl rfl ⟨_, rfl, ⟨bool_of (decide_eq_false (chk_no (node_kid (by omega)))).symm, fun h => absurd h (chk_no (node_kid (by omega)))⟩, hK⟩))
  · have hkl : kidsB k ls.length = true := arI_kids.2 (by omega)
    refine dk2_seq (w4.heap.size) (w4.heap.size) (ops := regOps Try.f91 2) (N := 23) (by kernel_rfl) wide_orders (by kernel_rfl) fun w14 hw14 B15 hS K13 hK13 => ?_
    have zw14 : w14.heap.size = w4.heap.size := by rw [hw14]
    have sB15 := B15.size
    have hB := bt hB B15
    have hK := hK.below B15
    have mg := mg.old B15
    have m3 := m3.old B15
    have mg_d := mg
    have m3_d := m3
    have hB_d := hB
    have hK_d := hK
    refine F.dv 0 14 (.move (.tmp 1)) hS (fun W hW => x_move rfl) fun a F => F.dv 1 15 (.binOp .gtr 3 (.tmp 14) (.const (.int .i64 256)) 3) hS (fun W hW => gtrF (by omega) rfl rfl) fun a F => F.dv 2 16 (.move (.tmp 15)) hS (fun W hW => x_move rfl) fun a F => F.dg 3 17 16 2 false (.move (.tmp 2)) hS rfl (fun W hW => x_move rfl) fun a F => F.dg 4 18 16 2 false (.nilCheck (.tmp 17)) hS rfl (fun W hW => x_nil rfl) fun a F => F.dg 5 19 16 2 false (.load 3 (.tmp 18)) hS rfl (fun W hW => x_load rfl (m_load flat3 ((mg_d.k2 hW (by omega)).cell (j := 0) rfl))) fun a F => F.dg 6 20 16 2 false (.binOp .gtr 3 (.tmp 19) (.const (.int .i64 1000)) 3) hS rfl (fun W hW => gtrF (by omega) rfl rfl) fun a F => F.dv 7 21 (.pick (.tmp 16) (.const (.bool true)) (.tmp 20)) hS (fun W hW => x_pick (b := false) rfl rfl) fun a F => F.dv 8 22 (.move (.tmp 21)) hS (fun W hW => x_move rfl) fun a F => F.dg 9 23 22 8 false (.fieldAddr 24 (.tmp 3) 0) hS rfl (fun W hW => x_fa0 fa24_0 rfl) fun a F => F.dg 10 24 22 8 false (.load 3 (.tmp 23)) hS rfl (fun W hW => x_load rfl (m_load flat3 ((m3_d.k2 hW (by omega)).cell (j := 0) rfl))) fun a F => ?_
    refine d_oneg 11 22 (some 25) (.call (.mk (.value (.func 113)) #[(.tmp 24)] #[3])) (j := 8) (want := false) F (by kernel_rfl) (by kernel_rfl) (by kernel_rfl) rfl fun ty pos af => ?_
    refine s_callS [.int .i64 k] F E113 rfl (by decide) (arity58 k _) fun a F => ?_
    refine s_end ⟨hS, ?_⟩
    refine F.dg 12 26 22 8 false (.binOp .lss 3 (.tmp 25) (.const (.int .i64 0)) 3) hS rfl (fun W hW => lssF (by omega) rfl rfl) fun a F => F.dv 13 27 (.pick (.tmp 22) (.const (.bool true)) (.tmp 26)) hS (fun W hW => x_pick (b := false) rfl rfl) fun a F => F.dv 14 28 (.move (.tmp 27)) hS (fun W hW => x_move rfl) fun a F => F.dg 15 29 28 14 false (.fieldAddr 24 (.tmp 3) 2) hS rfl (fun W hW => x_fa0 fa24_2 rfl) fun a F => F.dg 16 30 28 14 false (.load 22 (.tmp 29)) hS rfl (fun W hW => x_load rfl (m_load flat22 ((m3_d.k2 hW (by omega)).cell (j := 2) rfl))) fun a F => F.dg 17 31 28 14 false (.call (.mk (.builtin .len) #[(.tmp 30)] #[22])) hS rfl (fun W hW => x_len Try.underlying22 rfl) fun a F => F.dg 18 32 28 14 false (.fieldAddr 24 (.tmp 3) 0) hS rfl (fun W hW => x_fa0 fa24_0 rfl) fun a F => F.dg 19 33 28 14 false (.load 3 (.tmp 32)) hS rfl (fun W hW => x_load rfl (m_load flat3 ((m3_d.k2 hW (by omega)).cell (j := 0) rfl))) fun a F => ?_
    refine d_oneg 20 28 (some 34) (.call (.mk (.value (.func 113)) #[(.tmp 33)] #[3])) (j := 14) (want := false) F (by kernel_rfl) (by kernel_rfl) (by kernel_rfl) rfl fun ty pos af => ?_
    refine s_callS [.int .i64 k] F E113 rfl (by decide) (arity58 k _) fun a F => ?_
    refine s_end ⟨hS, ?_⟩
    refine F.dg 21 35 28 14 false (.binOp .neq 3 (.tmp 31) (.tmp 34) 3) hS rfl (fun W hW => neqF (by omega) rfl rfl) fun a F => F.dv 22 36 (.pick (.tmp 28) (.const (.bool true)) (.tmp 35)) hS (fun W hW => x_pick (b := false) rfl rfl) fun a F => ?_
    refine d_end (by kernel_rfl) (hK13 _ _ ?_)
    refine wp_if F rfl ?_
    refine wp_skip (K3 _ _ ?_)
    refine wp_seq_k fun _ K14 => ?_
    rcases (show (k = 1 ∧ n < 0) ∨ (k = 1 ∧ 0 ≤ n ∧ 1099511627776 < n) ∨ (k = 1 ∧ 0 ≤ n ∧ n ≤ 1099511627776) ∨ (k = 2 ∧ n < 0) ∨ (k = 2 ∧ 0 ≤ n ∧ 1000 < n) ∨ (k = 2 ∧ 0 ≤ n ∧ n ≤ 1000) ∨ (k = 3 ∧ n < 1) ∨ (k = 3 ∧ 1 ≤ n ∧ 1099511627776 < n) ∨ (k = 3 ∧ 1 ≤ n ∧ n ≤ 1099511627776) ∨ (k ≠ 1 ∧ k ≠ 2 ∧ k ≠ 3) by omega) with hv | hv | hv | hv | hv | hv | hv | hv | hv | hv
    · skip
      refine wp_rs fun _ K16 => F.vl (x_fa0 fa24_0 rfl) fun a F => F.ld m3 flat3 rfl rfl fun a F => ?_
      refine s_end (K16 _ _ ?_)
      refine wp_block ?_
      refine wp_rs fun _ K17 => F.vl (eqlT (by omega) rfl rfl) fun a F => F.sg rfl fun a F => ?_
      refine s_end (K17 _ _ ?_)
      refine wp_if F rfl ?_
      refine wp_rs fun _ K18 => F.vl (x_fa0 fa24_1 rfl) fun a F => F.ld m3 flat3 rfl rfl fun a F => F.vl (geqF (by omega) rfl rfl) fun a F => F.mv rfl fun a F => s_grdn 44 F rfl rfl (by decide) fun a F => s_grdn 44 F rfl rfl (by decide) fun a F => s_grdn 44 F rfl rfl (by decide) fun a F => F.vl (x_pick (b := false) rfl rfl) fun a F => F.sg rfl fun a F => ?_
      refine s_end (K18 _ _ ?_)
      refine wp_ret (inb_ret (then_ret (res_slot F rfl rfl ⟨_, rfl, ⟨bool_of (decide_eq_false (chk_no (node_num (by omega)))).symm, fun h => absurd h (chk_no (node_num (by omega)))⟩, hK⟩)))
    · skip
      refine wp_rs fun _ K19 => F.vl (x_fa0 fa24_0 rfl) fun a F => F.ld m3 flat3 rfl rfl fun a F => ?_
      refine s_end (K19 _ _ ?_)
      refine wp_block ?_
      refine wp_rs fun _ K20 => F.vl (eqlT (by omega) rfl rfl) fun a F => F.sg rfl fun a F => ?_
      refine s_end (K20 _ _ ?_)
      refine wp_if F rfl ?_
      refine wp_rs fun _ K21 => F.vl (x_fa0 fa24_1 rfl) fun a F => F.ld m3 flat3 rfl rfl fun a F => F.vl (geqT (by omega) rfl rfl) fun a F => F.mv rfl fun a F => s_grd 44 F rfl rfl rfl <| F.vl (x_fa0 fa24_1 rfl) fun a F => s_grd 44 F rfl rfl rfl <| F.ld m3 flat3 rfl rfl fun a F => s_grd 44 F rfl rfl rfl <| F.vl (leqF (by omega) rfl rfl) fun a F => F.vl (x_pick (b := true) rfl rfl) fun a F => F.sg rfl fun a F => ?_
      refine s_end (K21 _ _ ?_)
      refine wp_ret (inb_ret (then_ret (res_slot F rfl rfl ⟨_, rfl, ⟨bool_of (decide_eq_false (chk_no (node_num (by omega)))).symm, fun h => absurd h (chk_no (node_num (by omega)))⟩, hK⟩)))
    · have hnb : numB 1099511627776 k n = true := numB_iff.2 (by omega)
      have hnd := nodeE_iff.2 ⟨(by omega : d ≤ 256), (by omega : r ≠ 0), hkl, hnb, (by omega : ¬ (k = 2 ∧ (n < 0 ∨ 1001 ≤ n)))⟩
      have hnil := nil_of_kids hkl (by omega)
      refine wp_rs fun _ K22 => F.vl (x_fa0 fa24_0 rfl) fun a F => F.ld m3 flat3 rfl rfl fun a F => ?_
      refine s_end (K22 _ _ ?_)
      refine wp_block ?_
      refine wp_rs fun _ K23 => F.vl (eqlT (by omega) rfl rfl) fun a F => F.sg rfl fun a F => ?_
      refine s_end (K23 _ _ ?_)
      refine wp_if F rfl ?_
      refine wp_rs fun _ K24 => F.vl (x_fa0 fa24_1 rfl) fun a F => F.ld m3 flat3 rfl rfl fun a F => F.vl (geqT (by omega) rfl rfl) fun a F => F.mv rfl fun a F => s_grd 44 F rfl rfl rfl <| F.vl (x_fa0 fa24_1 rfl) fun a F => s_grd 44 F rfl rfl rfl <| F.ld m3 flat3 rfl rfl fun a F => s_grd 44 F rfl rfl rfl <| F.vl (leqT (by omega) rfl rfl) fun a F => F.vl (x_pick (b := true) rfl rfl) fun a F => F.sg rfl fun a F => ?_
      refine s_end (K24 _ _ ?_)
      have mg : Blk w14 g 3 [.int .i64 (1000 - ((r - 1 : Nat) : Int))] := by rw [show (1000 : Int) - ((r - 1 : Nat) : Int) = 1000 - (r : Int) + 1 by omega]; exact mg
      refine wp_ret (inb_ret (then_ret (res_slot F rfl rfl ⟨_, rfl, ⟨bool_of (decide_eq_true (by rw [chk_in hnd, hnil]; rfl)).symm, fun _ => by rw [chk_in hnd, hnil]; exact mg⟩, hK⟩)))
    · skip
      refine wp_rs fun _ K25 => F.vl (x_fa0 fa24_0 rfl) fun a F => F.ld m3 flat3 rfl rfl fun a F => ?_
      refine s_end (K25 _ _ ?_)
      refine wp_block ?_
      refine wp_rs fun _ K26 => F.vl (eqlF (by omega) rfl rfl) fun a F => F.sg rfl fun a F => ?_
      refine s_end (K26 _ _ ?_)
      refine wp_if F rfl ?_
      refine wp_rs fun _ K27 => F.vl (eqlT (by omega) rfl rfl) fun a F => F.sg rfl fun a F => ?_
      refine s_end (K27 _ _ ?_)
      refine wp_if F rfl ?_
      refine wp_rs fun _ K28 => F.vl (x_fa0 fa24_1 rfl) fun a F => F.ld m3 flat3 rfl rfl fun a F => F.vl (geqF (by omega) rfl rfl) fun a F => F.mv rfl fun a F => s_grdn 54 F rfl rfl (by decide) fun a F => s_grdn 54 F rfl rfl (by decide) fun a F => s_grdn 54 F rfl rfl (by decide) fun a F => F.vl (x_pick (b := false) rfl rfl) fun a F => F.sg rfl fun a F => ?_
      refine s_end (K28 _ _ ?_)
      refine wp_ret (inb_ret (then_ret (res_slot F rfl rfl ⟨_, rfl, ⟨bool_of (decide_eq_false (chk_no (node_var (by omega)))).symm, fun h => absurd h (chk_no (node_var (by omega)))⟩, hK⟩)))
    · skip
      refine wp_rs fun _ K29 => F.vl (x_fa0 fa24_0 rfl) fun a F => F.ld m3 flat3 rfl rfl fun a F => ?_
      refine s_end (K29 _ _ ?_)
      refine wp_block ?_
      refine wp_rs fun _ K30 => F.vl (eqlF (by omega) rfl rfl) fun a F => F.sg rfl fun a F => ?_
      refine s_end (K30 _ _ ?_)
      refine wp_if F rfl ?_
      refine wp_rs fun _ K31 => F.vl (eqlT (by omega) rfl rfl) fun a F => F.sg rfl fun a F => ?_
      refine s_end (K31 _ _ ?_)
      refine wp_if F rfl ?_
      refine wp_rs fun _ K32 => F.vl (x_fa0 fa24_1 rfl) fun a F => F.ld m3 flat3 rfl rfl fun a F => F.vl (geqT (by omega) rfl rfl) fun a F => F.mv rfl fun a F => s_grd 54 F rfl rfl rfl <| F.vl (x_fa0 fa24_1 rfl) fun a F => s_grd 54 F rfl rfl rfl <| F.ld m3 flat3 rfl rfl fun a F => s_grd 54 F rfl rfl rfl <| F.vl (leqF (by omega) rfl rfl) fun a F => F.vl (x_pick (b := true) rfl rfl) fun a F => F.sg rfl fun a F => ?_
      refine s_end (K32 _ _ ?_)
      refine wp_ret (inb_ret (then_ret (res_slot F rfl rfl ⟨_, rfl, ⟨bool_of (decide_eq_false (chk_no (node_var (by omega)))).symm, fun h => absurd h (chk_no (node_var (by omega)))⟩, hK⟩)))
    · have hnb : numB 1099511627776 k n = true := numB_iff.2 (by omega)
      have hnd := nodeE_iff.2 ⟨(by omega : d ≤ 256), (by omega : r ≠ 0), hkl, hnb, (by omega : ¬ (k = 2 ∧ (n < 0 ∨ 1001 ≤ n)))⟩
      have hnil := nil_of_kids hkl (by omega)
      refine wp_rs fun _ K33 => F.vl (x_fa0 fa24_0 rfl) fun a F => F.ld m3 flat3 rfl rfl fun a F => ?_
      refine s_end (K33 _ _ ?_)
      refine wp_block ?_
      refine wp_rs fun _ K34 => F.vl (eqlF (by omega) rfl rfl) fun a F => F.sg rfl fun a F => ?_
      refine s_end (K34 _ _ ?_)
      refine wp_if F rfl ?_
      refine wp_rs fun _ K35 => F.vl (eqlT (by omega) rfl rfl) fun a F => F.sg rfl fun a F => ?_
      refine s_end (K35 _ _ ?_)
      refine wp_if F rfl ?_
      refine wp_rs fun _ K36 => F.vl (x_fa0 fa24_1 rfl) fun a F => F.ld m3 flat3 rfl rfl fun a F => F.vl (geqT (by omega) rfl rfl) fun a F => F.mv rfl fun a F => s_grd 54 F rfl rfl rfl <| F.vl (x_fa0 fa24_1 rfl) fun a F => s_grd 54 F rfl rfl rfl <| F.ld m3 flat3 rfl rfl fun a F => s_grd 54 F rfl rfl rfl <| F.vl (leqT (by omega) rfl rfl) fun a F => F.vl (x_pick (b := true) rfl rfl) fun a F => F.sg rfl fun a F => ?_
      refine s_end (K36 _ _ ?_)
      have mg : Blk w14 g 3 [.int .i64 (1000 - ((r - 1 : Nat) : Int))] := by rw [show (1000 : Int) - ((r - 1 : Nat) : Int) = 1000 - (r : Int) + 1 by omega]; exact mg
      refine wp_ret (inb_ret (then_ret (res_slot F rfl rfl ⟨_, rfl, ⟨bool_of (decide_eq_true (by rw [chk_in hnd, hnil]; rfl)).symm, fun _ => by rw [chk_in hnd, hnil]; exact mg⟩, hK⟩)))
    · skip
      refine wp_rs fun _ K37 => F.vl (x_fa0 fa24_0 rfl) fun a F => F.ld m3 flat3 rfl rfl fun a F => ?_
      refine s_end (K37 _ _ ?_)
      refine wp_block ?_
      refine wp_rs fun _ K38 => F.vl (eqlF (by omega) rfl rfl) fun a F => F.sg rfl fun a F => ?_
      refine s_end (K38 _ _ ?_)
      refine wp_if F rfl ?_
      refine wp_rs fun _ K39 => F.vl (eqlF (by omega) rfl rfl) fun a F => F.sg rfl fun a F => ?_
      refine s_end (K39 _ _ ?_)
      refine wp_if F rfl ?_
      refine wp_rs fun _ K40 => F.vl (eqlT (by omega) rfl rfl) fun a F => F.sg rfl fun a F => ?_
      refine s_end (K40 _ _ ?_)
      refine wp_if F rfl ?_
      refine wp_rs fun _ K41 => F.vl (x_fa0 fa24_1 rfl) fun a F => F.ld m3 flat3 rfl rfl fun a F => F.vl (lssT (by omega) rfl rfl) fun a F => F.mv rfl fun a F => s_grdn 64 F rfl rfl (by decide) fun a F => s_grdn 64 F rfl rfl (by decide) fun a F => s_grdn 64 F rfl rfl (by decide) fun a F => F.vl (x_pick (b := true) rfl rfl) fun a F => ?_
      refine s_end (K41 _ _ ?_)
      refine wp_if F rfl ?_
      refine wp_rs fun _ K42 => F.sg rfl fun a F => ?_
      refine s_end (K42 _ _ ?_)
      refine wp_ret (inb_ret (then_ret (res_slot F rfl rfl ⟨_, rfl, ⟨bool_of (decide_eq_false (chk_no (node_num (by omega)))).symm, fun h => absurd h (chk_no (node_num (by omega)))⟩, hK⟩)))
    · skip
      refine wp_rs fun _ K43 => F.vl (x_fa0 fa24_0 rfl) fun a F => F.ld m3 flat3 rfl rfl fun a F => ?_
      refine s_end (K43 _ _ ?_)
      refine wp_block ?_
      refine wp_rs fun _ K44 => F.vl (eqlF (by omega) rfl rfl) fun a F => F.sg rfl fun a F => ?_
      refine s_end (K44 _ _ ?_)
      refine wp_if F rfl ?_
      refine wp_rs fun _ K45 => F.vl (eqlF (by omega) rfl rfl) fun a F => F.sg rfl fun a F => ?_
      refine s_end (K45 _ _ ?_)
      refine wp_if F rfl ?_
      refine wp_rs fun _ K46 => F.vl (eqlT (by omega) rfl rfl) fun a F => F.sg rfl fun a F => ?_
      refine s_end (K46 _ _ ?_)
      refine wp_if F rfl ?_
      refine wp_rs fun _ K47 => F.vl (x_fa0 fa24_1 rfl) fun a F => F.ld m3 flat3 rfl rfl fun a F => F.vl (lssF (by omega) rfl rfl) fun a F => F.mv rfl fun a F => s_grd 64 F rfl rfl rfl <| F.vl (x_fa0 fa24_1 rfl) fun a F => s_grd 64 F rfl rfl rfl <| F.ld m3 flat3 rfl rfl fun a F => s_grd 64 F rfl rfl rfl <| F.vl (gtrT (by omega) rfl rfl) fun a F => F.vl (x_pick (b := false) rfl rfl) fun a F => ?_
      refine s_end (K47 _ _ ?_)
      refine wp_if F rfl ?_
      refine wp_rs fun _ K48 => F.sg rfl fun a F => ?_
      refine s_end (K48 _ _ ?_)
      refine wp_ret (inb_ret (then_ret (res_slot F rfl rfl ⟨_, rfl, ⟨bool_of (decide_eq_false (chk_no (node_num (by omega)))).symm, fun h => absurd h (chk_no (node_num (by omega)))⟩, hK⟩)))
    · have hnb : numB 1099511627776 k n = true := numB_iff.2 (by omega)
      have hnd := nodeE_iff.2 ⟨(by omega : d ≤ 256), (by omega : r ≠ 0), hkl, hnb, (by omega : ¬ (k = 2 ∧ (n < 0 ∨ 1001 ≤ n)))⟩
      refine wp_rs fun _ K49 => F.vl (x_fa0 fa24_0 rfl) fun a F => F.ld m3 flat3 rfl rfl fun a F => ?_
      refine s_end (K49 _ _ ?_)
      refine wp_block ?_
      refine wp_rs fun _ K50 => F.vl (eqlF (by omega) rfl rfl) fun a F => F.sg rfl fun a F => ?_
      refine s_end (K50 _ _ ?_)
      refine wp_if F rfl ?_
      refine wp_rs fun _ K51 => F.vl (eqlF (by omega) rfl rfl) fun a F => F.sg rfl fun a F => ?_
      refine s_end (K51 _ _ ?_)
      refine wp_if F rfl ?_
      refine wp_rs fun _ K52 => F.vl (eqlT (by omega) rfl rfl) fun a F => F.sg rfl fun a F => ?_
      refine s_end (K52 _ _ ?_)
      refine wp_if F rfl ?_
      refine wp_rs fun _ K53 => F.vl (x_fa0 fa24_1 rfl) fun a F => F.ld m3 flat3 rfl rfl fun a F => F.vl (lssF (by omega) rfl rfl) fun a F => F.mv rfl fun a F => s_grd 64 F rfl rfl rfl <| F.vl (x_fa0 fa24_1 rfl) fun a F => s_grd 64 F rfl rfl rfl <| F.ld m3 flat3 rfl rfl fun a F => s_grd 64 F rfl rfl rfl <| F.vl (gtrF (by omega) rfl rfl) fun a F => F.vl (x_pick (b := false) rfl rfl) fun a F => ?_
      refine s_end (K53 _ _ ?_)
      refine wp_if F rfl ?_
      refine wp_skip (K14 _ _ ?_)
      refine wp_seq_k fun _ K54 => ?_
      refine wp_rs fun _ K55 => F.vl (x_fa0 fa24_2 rfl) fun a F => F.ld m3 flat22 rfl rfl fun a F => F.vl (x_len Try.underlying22 rfl) fun a F => F.mv rfl fun a F => ?_
      refine s_end (K55 _ _ ?_)
      refine wp_block ?_
      have mg : Blk w14 g 3 [.int .i64 (1000 - ((r - 1 : Nat) : Int))] := by rw [show (1000 : Int) - ((r - 1 : Nat) : Int) = 1000 - (r : Int) + 1 by omega]; exact mg
      refine wp_up xs.length (fun i a w => ∃ ri : Nat, ri ≤ 1000 ∧ chks 256 1099511627776 1001 (d + 1) (r - 1) ls = chks 256 1099511627776 1001 (d + 1) ri (ls.drop i) ∧ Blk w g 3 [.int .i64 (1000 - (ri : Int))] ∧ Below w0.heap.size w0 w ∧ Ktw g g w1 w ∧ Fs 83 a [(72, .int .i64 (i : Int)), (71, .int .i64 (xs.length : Int)), (70, .slice av xs.length cv), (1, .int .i64 d), (2, .pointer (some ⟨g, 0, none⟩))]) ⟨r - 1, by omega, rfl, mg, hB, hK, F.sub _ rfl⟩ ?_
      clear F hB hK mg
      rintro i a w hi ⟨ri, hri, hck, mg, hB, hK, F⟩ K' hK'
      have sB := hB.size
      have hgl := mg.lt
      have sK := hK.size
      have hle := kids_le hkl
      refine wp_rs fun _ K56 => F.vl (x_lss rfl rfl rfl) fun a F => ?_
      refine s_end (K56 _ _ ?_)
      refine wp_seq_k fun _ K57 => ?_
      refine wp_iff F rfl (fun hc73 => ?_) (fun hc73 => ?_)
      · obtain ⟨b, off, c, y, hve, hy, hrow⟩ := rd_row3 hR (i := i) (by omega)
        cases hve
        obtain ⟨l, hlk⟩ : ∃ l, ls[i]? = some l := ⟨_, List.getElem?_eq_getElem (by omega)⟩
        have ihy := ih i y l hy hlk
        have h1y := (hk i y l hy hlk).one1
        rw [drop_at hlk] at hck
        refine wp_skip (K57 _ _ ?_)
        refine wp_seq_k fun _ K58 => ?_
        refine wp_block ?_
        refine wp_rs fun _ K59 => F.vl (x_ixa rfl rfl (m_ixsK i Try.underlying22 el22.size rfl (by omega))) fun a F => F.vl (x_ldA wide24 (hrow _ hB) rfl rfl) fun a F => ?_
        refine s_alloc F (by decide) zero24 fun w16 b8 a eb8 m8 B17 zb8 F => ?_
        have sB17 := B17.size
        have hB := bt hB B17
        have hK := hK.below B17
        have mg := mg.old B17
        refine s_putW F rfl rfl (size_wide wide24) m8 rfl (one_lc h1y) fun w18 m8 o19 => ?_
        have so19 := o19.size
        have hB := hB.trans (o19.below (by omega))
        have hK := hK.only o19 (by omega)
        have mg := mg.only o19 (by omega)
        refine s_end (K59 _ _ ?_)
        refine wp_rs fun _ K60 => F.vl (x_ldW wide24 m8 rfl rfl) fun a F => F.mv rfl fun a F => F.vl (x_add (by omega) (by omega) rfl rfl) fun a F => F.mv rfl fun a F => ?_
        refine s_call (R := fun u w' => (u = .bool (decide ((chk 256 1099511627776 1001 (d + 1) ri l).1 = 0)) ∧ ((chk 256 1099511627776 1001 (d + 1) ri l).1 = 0 → Blk w' g 3 [.int .i64 (1000 - ((chk 256 1099511627776 1001 (d + 1) ri l).2 : Int))])) ∧ Ktw g g w18 w') F [_, _, _] E91 rfl (by decide) (ihy (d + 1) ri w18 (by omega) (by omega) hri hB mg) ?_
        rintro _ w20 a ⟨⟨rfl, hmg⟩, k21⟩ F
        have sk21 := k21.size
        have hB := k21.under hB (by omega)
        have hK := hK.trans k21 (by omega)
        refine F.vl (x_not rfl) fun a F => ?_
        refine s_end (K60 _ _ ?_)
        refine wp_ifb F rfl (fun hc81 => ?_) (fun hc81 => ?_)
        · have hc0 : ¬ (chk 256 1099511627776 1001 (d + 1) ri l).1 = 0 := by simpa using hc81
          refine wp_rs fun _ K61 => F.sg rfl fun a F => ?_
          refine s_end (K61 _ _ ?_)
          refine wp_ret (inb_ret (then_ret (then_ret (inb_ret (then_ret (res_slot F rfl rfl ⟨_, rfl, ⟨bool_of (decide_eq_false (by rw [chk_in hnd, hck, chks_out hc0]; exact hc0)).symm, fun h => absurd (by rw [chk_in hnd, hck, chks_out hc0] at h; exact h) hc0⟩, hK⟩))))))
        · have hc0 : (chk 256 1099511627776 1001 (d + 1) ri l).1 = 0 := by simpa using hc81
          have mg := hmg hc0
          refine wp_skip (K58 _ _ ?_)
          refine wp_region_lit ?_
          refine F.vl (x_addn (i + 1) (by omega) (by omega) rfl rfl) fun a F => F.mv rfl fun a F => ?_
          refine s_end (hK' _ _ (by omega) ⟨(chk 256 1099511627776 1001 (d + 1) ri l).2, Nat.le_trans (chk_le _ _ _ _ _ _) hri, by rw [hck, chks_in hc0], mg, hB, hK, F.sub _ rfl⟩)
      · refine wp_exit (K54 _ _ ?_)
        refine wp_rs fun _ K62 => F.sg rfl fun a F => ?_
        refine s_end (K62 _ _ ?_)
        have hnil : ls.drop i = [] := List.drop_of_length_le (by omega)
        rw [hnil] at hck
        refine wp_ret (res_slot F rfl rfl ⟨_, rfl, ⟨bool_of (decide_eq_true (by rw [chk_in hnd, hck]; rfl)).symm, fun _ => by rw [chk_in hnd, hck]; exact mg⟩, hK⟩)
    · have hnb : numB 1099511627776 k n = true := numB_iff.2 (by omega)
      have hnd := nodeE_iff.2 ⟨(by omega : d ≤ 256), (by omega : r ≠ 0), hkl, hnb, (by omega : ¬ (k = 2 ∧ (n < 0 ∨ 1001 ≤ n)))⟩
      refine wp_rs fun _ K63 => F.vl (x_fa0 fa24_0 rfl) fun a F => F.ld m3 flat3 rfl rfl fun a F => ?_
      refine s_end (K63 _ _ ?_)
      refine wp_block ?_
      refine wp_rs fun _ K64 => F.vl (eqlF (by omega) rfl rfl) fun a F => F.sg rfl fun a F => ?_
      refine s_end (K64 _ _ ?_)
      refine wp_if F rfl ?_
      refine wp_rs fun _ K65 => F.vl (eqlF (by omega) rfl rfl) fun a F => F.sg rfl fun a F => ?_
      refine s_end (K65 _ _ ?_)
      refine wp_if F rfl ?_
      refine wp_rs fun _ K66 => F.vl (eqlF (by omega) rfl rfl) fun a F => F.sg rfl fun a F => ?_
      refine s_end (K66 _ _ ?_)
      refine wp_if F rfl ?_
      refine wp_skip (K14 _ _ ?_)
      refine wp_seq_k fun _ K67 => ?_
      refine wp_rs fun _ K68 => F.vl (x_fa0 fa24_2 rfl) fun a F => F.ld m3 flat22 rfl rfl fun a F => F.vl (x_len Try.underlying22 rfl) fun a F => F.mv rfl fun a F => ?_
      refine s_end (K68 _ _ ?_)
      refine wp_block ?_
      have mg : Blk w14 g 3 [.int .i64 (1000 - ((r - 1 : Nat) : Int))] := by rw [show (1000 : Int) - ((r - 1 : Nat) : Int) = 1000 - (r : Int) + 1 by omega]; exact mg
      refine wp_up xs.length (fun i a w => ∃ ri : Nat, ri ≤ 1000 ∧ chks 256 1099511627776 1001 (d + 1) (r - 1) ls = chks 256 1099511627776 1001 (d + 1) ri (ls.drop i) ∧ Blk w g 3 [.int .i64 (1000 - (ri : Int))] ∧ Below w0.heap.size w0 w ∧ Ktw g g w1 w ∧ Fs 83 a [(72, .int .i64 (i : Int)), (71, .int .i64 (xs.length : Int)), (70, .slice av xs.length cv), (1, .int .i64 d), (2, .pointer (some ⟨g, 0, none⟩))]) ⟨r - 1, by omega, rfl, mg, hB, hK, F.sub _ rfl⟩ ?_
      clear F hB hK mg
      rintro i a w hi ⟨ri, hri, hck, mg, hB, hK, F⟩ K' hK'
      have sB := hB.size
      have hgl := mg.lt
      have sK := hK.size
      have hle := kids_le hkl
      refine wp_rs fun _ K69 => F.vl (x_lss rfl rfl rfl) fun a F => ?_
      refine s_end (K69 _ _ ?_)
      refine wp_seq_k fun _ K70 => ?_
      refine wp_iff F rfl (fun hc73 => ?_) (fun hc73 => ?_)
      · obtain ⟨b, off, c, y, hve, hy, hrow⟩ := rd_row3 hR (i := i) (by omega)
        cases hve
        obtain ⟨l, hlk⟩ : ∃ l, ls[i]? = some l := ⟨_, List.getElem?_eq_getElem (by omega)⟩
        have ihy := ih i y l hy hlk
        have h1y := (hk i y l hy hlk).one1
        rw [drop_at hlk] at hck
        refine wp_skip (K70 _ _ ?_)
        refine wp_seq_k fun _ K71 => ?_
        refine wp_block ?_
        refine wp_rs fun _ K72 => F.vl (x_ixa rfl rfl (m_ixsK i Try.underlying22 el22.size rfl (by omega))) fun a F => F.vl (x_ldA wide24 (hrow _ hB) rfl rfl) fun a F => ?_
        refine s_alloc F (by decide) zero24 fun w22 b8 a eb8 m8 B23 zb8 F => ?_
        have sB23 := B23.size
        have hB := bt hB B23
        have hK := hK.below B23
        have mg := mg.old B23
        refine s_putW F rfl rfl (size_wide wide24) m8 rfl (one_lc h1y) fun w24 m8 o25 => ?_
        have so25 := o25.size
        have hB := hB.trans (o25.below (by omega))
        have hK := hK.only o25 (by omega)
        have mg := mg.only o25 (by omega)
        refine s_end (K72 _ _ ?_)
        refine wp_rs fun _ K73 => F.vl (x_ldW wide24 m8 rfl rfl) fun a F => F.mv rfl fun a F => F.vl (x_add (by omega) (by omega) rfl rfl) fun a F => F.mv rfl fun a F => ?_
        refine s_call (R := fun u w' => (u = .bool (decide ((chk 256 1099511627776 1001 (d + 1) ri l).1 = 0)) ∧ ((chk 256 1099511627776 1001 (d + 1) ri l).1 = 0 → Blk w' g 3 [.int .i64 (1000 - ((chk 256 1099511627776 1001 (d + 1) ri l).2 : Int))])) ∧ Ktw g g w24 w') F [_, _, _] E91 rfl (by decide) (ihy (d + 1) ri w24 (by omega) (by omega) hri hB mg) ?_
        rintro _ w26 a ⟨⟨rfl, hmg⟩, k27⟩ F
        have sk27 := k27.size
        have hB := k27.under hB (by omega)
        have hK := hK.trans k27 (by omega)
        refine F.vl (x_not rfl) fun a F => ?_
        refine s_end (K73 _ _ ?_)
        refine wp_ifb F rfl (fun hc81 => ?_) (fun hc81 => ?_)
        · have hc0 : ¬ (chk 256 1099511627776 1001 (d + 1) ri l).1 = 0 := by simpa using hc81
          refine wp_rs fun _ K74 => F.sg rfl fun a F => ?_
          refine s_end (K74 _ _ ?_)
          refine wp_ret (inb_ret (then_ret (then_ret (inb_ret (then_ret (res_slot F rfl rfl ⟨_, rfl, ⟨bool_of (decide_eq_false (by rw [chk_in hnd, hck, chks_out hc0]; exact hc0)).symm, fun h => absurd (by rw [chk_in hnd, hck, chks_out hc0] at h; exact h) hc0⟩, hK⟩))))))
        · have hc0 : (chk 256 1099511627776 1001 (d + 1) ri l).1 = 0 := by simpa using hc81
          have mg := hmg hc0
          refine wp_skip (K71 _ _ ?_)
          refine wp_region_lit ?_
          refine F.vl (x_addn (i + 1) (by omega) (by omega) rfl rfl) fun a F => F.mv rfl fun a F => ?_
          refine s_end (hK' _ _ (by omega) ⟨(chk 256 1099511627776 1001 (d + 1) ri l).2, Nat.le_trans (chk_le _ _ _ _ _ _) hri, by rw [hck, chks_in hc0], mg, hB, hK, F.sub _ rfl⟩)
      · refine wp_exit (K67 _ _ ?_)
        refine wp_rs fun _ K75 => F.sg rfl fun a F => ?_
        refine s_end (K75 _ _ ?_)
        have hnil : ls.drop i = [] := List.drop_of_length_le (by omega)
        rw [hnil] at hck
        refine wp_ret (res_slot F rfl rfl ⟨_, rfl, ⟨bool_of (decide_eq_true (by rw [chk_in hnd, hck]; rfl)).symm, fun _ => by rw [chk_in hnd, hck]; exact mg⟩, hK⟩)
theorem rSound17 (x : C3) (l : Lv) (w0 : World) (hL : RL w0 x l) : Calls Try.prog 45 #[lv x] w0 fun e w' => e = .returned (.bool (decide (sndL l))) ∧ Below w0.heap.size w0 w' := by
 have hB := Below.refl w0.heap.size w0
 have sB := hB.size
 refine calls_fs 6 [(0, lv x)] Try.func45 rfl rfl rfl rfl rfl fun a F => ?_
 refine wp_rs fun _ K1 => ?_
 refine s_box (lc x) F (by decide) rfl rfl fun w2 b1 a eb1 m1 B3 zb1 F => ?_
 have sB3 := B3.size
 have hB := bt hB B3
 refine F.sg rfl fun a F => ?_
 refine s_end (K1 _ _ ?_)
 refine wp_rs fun _ K2 => ?_
 refine s_alloc1 F (by decide) zero3 rfl fun w4 b3 a eb3 m3 B5 zb3 F => ?_
 have sB5 := B5.size
 have hB := bt hB B5
 have m1 := m1.old B5
 refine s_put F rfl rfl flat3 m3 (by simp) rfl fun w6 m3 o7 => ?_
 have so7 := o7.size
 have hB := hB.trans (o7.below (by omega))
 have m1 := m1.only o7 (by omega)
 refine s_end (K2 _ _ ?_)
 refine wp_rs fun _ K3 => F.vl (x_ldW wide24 m1 rfl rfl) fun a F => ?_
 refine s_call (R := fun u w' => (u = .bool (decide ((chk 256 1099511627776 1001 1 1000 l).1 = 0)) ∧ ((chk 256 1099511627776 1001 1 1000 l).1 = 0 → Blk w' b3 3 [.int .i64 (1000 - ((chk 256 1099511627776 1001 1 1000 l).2 : Int))])) ∧ Ktw b3 b3 w6 w') F [_, _, _] E91 rfl (by decide) (rsound39 w0 b3 (by omega) x l hL 1 1000 w6 (by decide) (by decide) (by decide) hB m3) ?_
 rintro _ w8 a ⟨⟨rfl, _⟩, k9⟩ F
 have sk9 := k9.size
 have hB := k9.under hB (by omega)
 refine F.sg rfl fun a F => ?_
 refine s_end (K3 _ _ ?_)
 refine wp_ret (res_slot F rfl rfl ⟨rfl, hB⟩)
/-- Its numbers are small. -/
def SL.lit : SL → Prop
 | .num n => n ≤ 1048576
 | .var _ => True
 | .succ n a => n ≤ 1048576 ∧ a.lit
 | .mx a b => a.lit ∧ b.lit
theorem rd_row1 {W : World} {v : Value} {y : C3} (h : Rd W v 3 1 (lc y)) : ∃ b off c, v = .slice (some ⟨b, off, none⟩) 1 c ∧ ∀ W', Below W.heap.size W W' → ∀ j u, (lc y)[j]? = some u → W'.cell? ((⟨b, off + 0 * 3, none⟩ : Addr).add j) = some u := by
 obtain ⟨b, off, c, x, h1, h2, h3⟩ := rd_row3 (xs := [y]) (by simpa using h) (i := 0) (by simp)
 simp at h2
 subst h2
 exact ⟨b, off, c, h1, h3⟩
theorem rd_row2 {W : World} {v : Value} {y z : C3} (h : Rd W v 3 2 (lc y ++ lc z)) : ∃ b off c, v = .slice (some ⟨b, off, none⟩) 2 c ∧ (∀ W', Below W.heap.size W W' → ∀ j u, (lc y)[j]? = some u → W'.cell? ((⟨b, off + 0 * 3, none⟩ : Addr).add j) = some u) ∧ (∀ W', Below W.heap.size W W' → ∀ j u, (lc z)[j]? = some u → W'.cell? ((⟨b, off + 1 * 3, none⟩ : Addr).add j) = some u) := by
 obtain ⟨b, off, c, x, h1, h2, h3⟩ := rd_row3 (xs := [y, z]) (by simpa using h) (i := 0) (by simp)
 obtain ⟨b', off', c', x', h4, h5, h6⟩ := rd_row3 (xs := [y, z]) (by simpa using h) (i := 1) (by simp)
 simp at h2 h5
 subst h2 h5
 rw [h1] at h4
 cases h4
 exact ⟨b, off, c, h1, h3, h6⟩
theorem RS.one1 {W : World} {s : SL} {x : C3} (h : RS W s x) : x.2.2.oneCell' = true := by
 obtain ⟨_, _, h⟩ := h.slice
 exact h.one
/-- A level of the four kinds: its kids as a list. -/
def SL.kids : SL → List SL
 | .num _ => []
 | .var _ => []
 | .succ _ a => [a]
 | .mx a b => [a, b]
theorem RS.kids {W : World} : ∀ {s : SL} {x : C3}, RS W s x → ∃ xs : List C3, Rd W x.2.2 3 xs.length (xs.flatMap lc) ∧ xs.length = s.kids.length ∧ ∀ (i : Nat) y t, xs[i]? = some y → s.kids[i]? = some t → RS W t y
 | .num _, x, h => ⟨[], by simpa using h.2.2, rfl, fun i y t h1 => by simp at h1⟩
 | .var _, x, h => ⟨[], by simpa using h.2.2, rfl, fun i y t h1 => by simp at h1⟩
 | .succ _ a, x, ⟨_, _, y, h1, h2⟩ => ⟨[y], by simpa using h1, rfl, fun i z t e1 e2 => by
  rcases i with _ | i
  ·
   simp [SL.kids] at e1 e2; subst e1 e2; exact h2
  ·
   simp at e1⟩
 | .mx a b, x, ⟨_, y, z, h1, h2, h3⟩ => ⟨[y, z], by simpa using h1, rfl, fun i u t e1 e2 => by
  rcases i with _ | _ | i
  ·
   simp [SL.kids] at e1 e2; subst e1 e2; exact h2
  ·
   simp [SL.kids] at e1 e2; subst e1 e2; exact h3
  ·
   simp at e1⟩
theorem SL.kids_le (s : SL) : s.kids.length ≤ 2 := by cases s <;> simp [SL.kids]
end Go.Proofs.Ytbhhbfdoadecgaa

namespace Go.Proofs.Ytbhhbfdoadecgaa
open Go.RowKit Go.Shelf
set_option linter.unusedVariables false
set_option linter.unusedSimpArgs false
def rho (vs : List Int) (i : Nat) : Int := max 0 (min (vs.getD i 0) 1099511627776)
def val : SL → (Nat → Int) → Int
 | .num n, _ => n
 | .var i, ρ => ρ i
 | .succ n a, ρ => cut (n + val a ρ)
 | .mx a b, ρ => max (val a ρ) (val b ρ)
end Go.Proofs.Ytbhhbfdoadecgaa

namespace Go.Proofs.Ytbhhbfdoadecgaa
open Go.RowKit Go.Shelf
set_option linter.unusedVariables false
set_option linter.unusedSimpArgs false
/-- A form (of type t) that lies in block g; its slice v lies in block o, if it has one. -/
structure FA (t base : Nat) (w : World) (g o : Nat) (v : Value) (c : Int) (ks : List Int) : Prop where
 blk : Blk w g t [.int .i64 c, v]
 own : w.ownsRow base 3 1 v ks.length (ints ks)
 at' : ∀ j, v.ownBlock = some j → j = o
 ne : v.ownBlock ≠ some g
 lo : base ≤ o ∧ base ≤ g ∧ o < w.heap.size
section
variable {t base : Nat} {w w' : World} {g o : Nat} {v : Value} {c : Int} {ks : List Int}
theorem FA.below (h : FA t base w g o v c ks) (hB : Below w.heap.size w w') : FA t base w' g o v c ks := ⟨h.blk.old hB, own_below h.own hB, h.at', h.ne, by have := h.lo; have := hB.size; omega⟩
theorem FA.only {k : Nat} (h : FA t base w g o v c ks) (hO : Only k w w') (hk : k ≠ g ∧ k ≠ o) : FA t base w' g o v c ks := ⟨h.blk.only hO (by omega), own_only h.own hO (fun e => by have := h.at' _ e; omega), h.at', h.ne, by have := h.lo; have := hO.size; omega⟩
theorem FA.k2 {a b : Nat} (h : FA t base w g o v c ks) (hK : Ktw a b w w') (hk : g ≠ a ∧ g ≠ b ∧ o ≠ a ∧ o ≠ b) : FA t base w' g o v c ks := ⟨h.blk.k2 hK (by omega), own_k2 h.own hK (fun c hc => by have := h.at' c hc; omega), h.at', h.ne, by have := h.lo; have := hK.size; omega⟩
theorem FA.form (h : FA t base w g o v c ks) : ∃ a cp, v = .slice a ks.length cp ∧ ks.length ≤ cp := by
 obtain ⟨a, cp, h1, h2, _⟩ := (Rd.own h.own).form
 exact ⟨a, cp, h1, h2⟩
theorem FA.rd (h : FA t base w g o v c ks) : Rd w v 1 ks.length (ints ks) := Rd.own h.own
theorem FA.lt (h : FA t base w g o v c ks) : g < w.heap.size := h.blk.lt
theorem FA.start (hB : Blk w g t [.int .i64 c, .slice none 0 0]) (hb : base ≤ g) : FA t base w g g (.slice none 0 0) c [] :=
 ⟨hB, World.ownsRow_nil _ _ _ _, (fun j h => by cases h), (fun h => by cases h), ⟨hb, hb, hB.lt⟩⟩
end
theorem ints_app (ks : List Int) (z : Int) : ints (ks ++ [z]) = ints ks ++ [.int .i64 z] := by simp
theorem ints_set (ks : List Int) (i : Nat) (z : Int) : ints (ks.set i z) = (ints ks).set i (.int .i64 z) := List.map_set
theorem rc_bd {s : SL} {n c : Int} (hn : 0 ≤ n) (h1 : n ≤ 1099511627776) (hc : 0 ≤ c) (h2 : c ≤ 1099511627776) : 0 ≤ rc s n c ∧ rc s n c ≤ 1099511627776 := by
 rw [rc_eq s n c hn (by omega)]
 have := cf_hi s n h1
 omega
end Go.Proofs.Ytbhhbfdoadecgaa

namespace Go.Proofs.Ytbhhbfdoadecgaa
set_option maxRecDepth 100000
set_option maxHeartbeats 1600000
open Go.RowKit Go.Shelf
set_option linter.unusedVariables false
set_option linter.unusedSimpArgs false
theorem raiseVar48 (base g o : Nat) (v : Value) (c : Int) (ks : List Int) (i : Nat) (k : Int) (w1 : World) (hA : FA 126 base w1 g o v c ks) (hi : i ≤ 2000) (hks : ks.length ≤ 3000) :
    Calls Try.prog 107 #[.pointer (some ⟨g, 0, none⟩), .int .i64 (i : Int), .int .i64 k] w1 fun e w' => ∃ u, e = .returned u ∧ (u = .tuple #[] ∧ ∃ v' o', FA 126 base w' g o' v' c (up ks i k) ∧ (o' = o ∨ w1.heap.size ≤ o')) ∧ Ktw g o w1 w' := by
  have hK := Ktw.refl g o w1
  refine calls_fs 37 [(0, .pointer (some ⟨g, 0, none⟩)), (1, .int .i64 (i : Int)), (2, .int .i64 k)] Try.func107 rfl rfl rfl rfl rfl fun a F => ?_
  refine wp_seq_k fun _ K1 => ?_
  refine wp_block ?_
  refine wp_up (i + 1 - ks.length) (fun j a w => ∃ v' o', FA 126 base w g o' v' c (ks ++ List.replicate j (-1)) ∧ (o' = o ∨ w1.heap.size ≤ o') ∧ Ktw g o w1 w ∧ Fs 37 a [(0, .pointer (some ⟨g, 0, none⟩)), (1, .int .i64 (i : Int)), (2, .int .i64 k)]) ⟨v, o, by simpa using hA, .inl rfl, hK, F.sub _ rfl⟩ ?_
  clear F hK hA
  rintro j a w hj ⟨v2, o2, hA, ho2, hK, F⟩ K' hK'
  have sK := hK.size
  obtain ⟨L, hL⟩ : ∃ L, L = ks ++ List.replicate j (-1) := ⟨_, rfl⟩
  rw [← hL] at hA
  have hLl : L.length = ks.length + j := by rw [hL]; simp
  obtain ⟨av, cv, rfl, hcv⟩ := hA.form
  have mg := hA.blk
  have hO := hA.own
  have hat := hA.at'
  have hne := hA.ne
  have hlo := hA.lo
  have hgl := mg.lt
  refine wp_seq_k fun _ K2 => ?_
  refine wp_rs fun _ K3 => F.mv rfl fun a F => F.vl (x_nil rfl) fun a F => F.vl (x_fa0 fa59_1 rfl) fun a F => F.ld mg flat29 rfl rfl fun a F => F.vl (x_len Try.underlying92 rfl) fun a F => F.mv rfl fun a F => F.vl (x_leq (b := decide (L.length ≤ i)) (decide_eq_decide.2 (by omega)) rfl rfl) fun a F => ?_
  refine s_end (K3 _ _ ?_)
  refine wp_iff F rfl (fun hc12 => ?_) (fun hc12 => ?_)
  · refine wp_skip (K2 _ _ ?_)
    refine wp_block ?_
    refine wp_region_lit ?_
    refine F.mv rfl fun a F => F.mv rfl fun a F => F.vl (x_nil rfl) fun a F => F.vl (x_fa0 fa59_1 rfl) fun a F => F.ld mg flat29 rfl rfl fun a F => ?_
    refine s_litG [.int .i64 (-1)] el29 F (by decide) rfl (by simp [Value.cells]) rfl (by decide) (by decide) fun w2 bl a ebl ml B3 zbl F => ?_
    have sB3 := B3.size
    have hK := hK.below B3
    have mg := mg.old B3
    have hO := own_below hO B3
    have ml : Blk w2 bl 3 [.int .i64 (-1)] := by simpa [Value.cells] using ml
    refine s_app1 (o := o2) el29 F (by decide) rfl rfl hO ml rfl (by simp [Value.oneCell']) hat (by omega) (by omega) (by decide) (by omega) fun v3 w4 a o3 hOn hOatn how hsrc k5 hkeep F => ?_
    have sk5 := k5.size
    have hK := hK.trans k5 (by omega)
    have mg := (hkeep _ mg.lt hne).trans mg
    have hO := hOn
    have hO_at := hOatn
    have hneg : v3.ownBlock ≠ some g := fun h => by rcases hsrc g h with h | h; exact hne h; omega
    refine F.vl (x_nil rfl) fun a F => F.vl (x_fa0 fa59_1 rfl) fun a F => ?_
    refine s_put F rfl rfl flat29 mg (by simp) (Rd.own hO).one fun w6 mg o7 => ?_
    have so7 := o7.size
    have hK := hK.only o7 (by omega)
    have hO := own_only hO o7 (hneg)
    have hL2 : ks ++ List.replicate (j + 1) (-1) = L ++ [-1] := by rw [hL, List.append_assoc, ← List.replicate_succ']
    refine s_end (hK' _ _ (by omega) ⟨v3, o3, ⟨mg, by rw [hL2, ints_app]; simpa using hO, hO_at, hneg, by omega⟩, by omega, hK, F.sub _ rfl⟩)
  · have hjj : j = i + 1 - ks.length := by omega
    obtain ⟨o4, cap, cur, hve, hb4, mo, hc1, hc2, hc3, hc4⟩ := own_blk hO (by omega)
    cases hve
    obtain rfl : o4 = o2 := hat _ rfl
    have hgo : g ≠ o4 := fun e => hne (by rw [e]; rfl)
    rw [Nat.mul_one] at hc3 hc4
    have hcur : cur[i]? = some (.int .i64 (gt L i)) := by
      have : (cur.take L.length)[i]? = some (.int .i64 (gt L i)) := by rw [hc4, List.getElem?_map, List.getElem?_eq_getElem (by omega), gt_lt (by omega)]; rfl
      rwa [List.getElem?_take, if_pos (by omega)] at this
    have hLp : L = padL ks (i + 1) := by rw [hL, hjj]; rfl
    have mol := mo.lt
    refine wp_exit (K1 _ _ ?_)
    refine dk2_one (o4) (o4) (ops := regOps Try.f107 2) (N := 16) (by kernel_rfl) wide_orders (by kernel_rfl) fun w8 hw8 B9 hS K4 K4 => ?_
    have zw8 : w8.heap.size = w.heap.size := by rw [hw8]
    have sB9 := B9.size
    have hK := hK.below B9
    have mg := mg.old B9
    have mo := mo.old B9
    have mg_d := mg
    have mo_d := mo
    have hK_d := hK
    refine F.dv 0 22 (.move (.tmp 0)) hS (fun W hW => x_move rfl) fun a F => F.dv 1 23 (.nilCheck (.tmp 22)) hS (fun W hW => x_nil rfl) fun a F => F.dv 2 24 (.fieldAddr 126 (.tmp 23) 1) hS (fun W hW => x_fa0 fa59_1 rfl) fun a F => F.dv 3 25 (.load 92 (.tmp 24)) hS (fun W hW => x_load rfl (m_load flat29 ((mg_d.k2 hW (by omega)).cell (j := 1) rfl))) fun a F => F.dv 4 26 (.move (.tmp 1)) hS (fun W hW => x_move rfl) fun a F => F.dv 5 27 (.move (.tmp 0)) hS (fun W hW => x_move rfl) fun a F => F.dv 6 28 (.nilCheck (.tmp 27)) hS (fun W hW => x_nil rfl) fun a F => F.dv 7 29 (.fieldAddr 126 (.tmp 28) 1) hS (fun W hW => x_fa0 fa59_1 rfl) fun a F => F.dv 8 30 (.load 92 (.tmp 29)) hS (fun W hW => x_load rfl (m_load flat29 ((mg_d.k2 hW (by omega)).cell (j := 1) rfl))) fun a F => F.dv 9 31 (.move (.tmp 1)) hS (fun W hW => x_move rfl) fun a F => F.dv 10 32 (.indexAddr 92 (.tmp 30) (.tmp 31)) hS (fun W hW => x_ixa rfl rfl (m_ixs0 i Try.underlying92 el29.size rfl (by omega))) fun a F => F.dv 12 34 (.move (.tmp 2)) hS (fun W hW => x_move rfl) fun a F => ?_
    refine d1 11 (some 33) (.load 3 (.tmp 32)) fun ty pos af => ?_
    refine F.vl (x_load rfl (m_load flat3 (mo.cell (j := i) hcur))) fun a F => ?_
    refine s_end ⟨hS, ?_⟩
    refine F.dv 13 35 (.call (.mk (.builtin .max) #[(.tmp 33), (.tmp 34)] #[3, 3])) hS (fun W hW => x_imax rfl rfl) fun a F => F.dv 14 36 (.indexAddr 92 (.tmp 25) (.tmp 26)) hS (fun W hW => x_ixa rfl rfl (m_ixs0 i Try.underlying92 el29.size rfl (by omega))) fun a F => ?_
    refine d1 15 none (.store 3 (.tmp 36) (.tmp 35)) fun ty pos af => ?_
    refine s_put F rfl rfl flat3 mo (by omega) rfl fun wz mo oz => ?_
    have hK := hK.only oz (by omega)
    have mg := mg.only oz (by omega)
    have hS := hS.only oz (by omega)
    have szz := oz.size
    clear hO
    refine s_end ⟨hS, ?_⟩
    refine d_end (by kernel_rfl) (K4 _ _ ?_)
    show bodyPost Try.prog Try.f107 (_) .normal a wz
    refine post_normal (res_none F rfl ⟨_, rfl, ⟨rfl, .slice (some ⟨o4, 0, none⟩) L.length cv, o4, ⟨mg, ?_, fun j h => (Option.some.inj h).symm, fun h => hgo (Option.some.inj h).symm, by omega⟩, ho2⟩, hK⟩)
    have hup : up ks i k = L.set i (max (gt L i) k) := by rw [up, hLp, gt_pad]
    have hul : (up ks i k).length = L.length := by rw [hup, List.length_set]
    have := own_of (k := 1) (n := L.length) (xs := ints (up ks i k)) hb4 mo hc1 hc2 (by rw [List.length_set]; omega) (by rw [Nat.mul_one, List.take_set, hc4, hup, ints_set])
    rw [hul]
    exact this
theorem raise59 (w0 : World) (g : Nat) : ∀ (s : SL) (x : C3), RS w0 s x → s.nums 1099511627776 1001 → ∀ (n : Int) (o : Nat) (v : Value) (c : Int) (ks : List Int) (w1 : World), 0 ≤ n → n ≤ 1099511627776 → 0 ≤ c → c ≤ 1099511627776 → ks.length ≤ 1001 → Below w0.heap.size w0 w1 → FA 126 w0.heap.size w1 g o v c ks →
    Calls Try.prog 137 #[.pointer (some ⟨g, 0, none⟩), lv x, .int .i64 n] w1 fun e w' => ∃ u, e = .returned u ∧ (u = .tuple #[] ∧ ∃ v' o', FA 126 w0.heap.size w' g o' v' (rc s n c) (rk s n ks) ∧ (o' = o ∨ w1.heap.size ≤ o')) ∧ Ktw g o w1 w' := by
  intro s
  induction s with
  | num p =>
    rintro ⟨k, m, vx⟩ hS0 hnm n o v c ks w1 hn0 hn1 hc0 hc1 hkl hB hA
    have hK := Ktw.refl g o w1
    have sB := hB.size
    have hlo := hA.lo
    have hgl := hA.lt
    obtain ⟨h1, h2, h3⟩ := hS0
    simp only at h1 h2
    subst h1 h2
    have hp : p ≤ 1099511627776 := hnm
    have mg := hA.blk
    have hO := hA.own
    have hat := hA.at'
    have hne := hA.ne
    refine calls_fs 57 [(0, .pointer (some ⟨g, 0, none⟩)), (1, .agg [.int .i64 1, .int .i64 (p : Int), vx].toArray), (2, .int .i64 n)] Try.func137 rfl rfl rfl rfl rfl fun a F => ?_
    refine wp_rs fun _ K1 => ?_
    refine s_box ([.int .i64 1, .int .i64 (p : Int), vx]) F (by decide) rfl rfl fun w2 b4 a eb4 m4 B3 zb4 F => ?_
    have sB3 := B3.size
    have hB := bt hB B3
    have hK := hK.below B3
    have mg := mg.old B3
    have hO := own_below hO B3
    refine s_end (K1 _ _ ?_)
    refine wp_rs fun _ K2 => F.vl (x_fa0 fa24_0 rfl) fun a F => F.ld m4 flat3 rfl rfl fun a F => ?_
    refine s_end (K2 _ _ ?_)
    refine wp_block ?_
    refine wp_rs fun _ K3 => F.vl (eqlT (by omega) rfl rfl) fun a F => F.sg rfl fun a F => ?_
    refine s_end (K3 _ _ ?_)
    refine wp_if F rfl ?_
    refine dk2_one (g) (g) (ops := regOps Try.f137 3) (N := 13) (by kernel_rfl) wide_orders (by kernel_rfl) fun w4 hw4 B5 hS K4 K4 => ?_
    have zw4 : w4.heap.size = w2.heap.size := by rw [hw4]
    have sB5 := B5.size
    have hB := bt hB B5
    have hK := hK.below B5
    have mg := mg.old B5
    have hO := own_below hO B5
    have m4 := m4.old B5
    have mg_d := mg
    have hO_d := hO
    have m4_d := m4
    have hB_d := hB
    have hK_d := hK
    refine F.dv 0 10 (.move (.tmp 0)) hS (fun W hW => x_move rfl) fun a F => F.dv 1 11 (.move (.tmp 0)) hS (fun W hW => x_move rfl) fun a F => F.dv 2 12 (.nilCheck (.tmp 11)) hS (fun W hW => x_nil rfl) fun a F => F.dv 3 13 (.fieldAddr 126 (.tmp 12) 0) hS (fun W hW => x_fa0 fa59_0 rfl) fun a F => F.dv 5 15 (.move (.tmp 2)) hS (fun W hW => x_move rfl) fun a F => F.dv 6 16 (.fieldAddr 24 (.tmp 4) 1) hS (fun W hW => x_fa0 fa24_1 rfl) fun a F => F.dv 7 17 (.load 3 (.tmp 16)) hS (fun W hW => x_load rfl (m_load flat3 ((m4_d.k2 hW (by omega)).cell (j := 1) rfl))) fun a F => ?_
    refine d_two 4 8 (by kernel_rfl) ?_ ?_
    · refine d_op 4 (some 14) (.load 3 (.tmp 13)) (by kernel_rfl) fun ty pos af => ?_
      refine F.ld mg flat3 rfl rfl fun a F => ?_
      refine s_end ⟨hS, ?_⟩
      refine d1 8 (some 18) (.call (.mk (.value (.func 138)) #[(.tmp 15), (.tmp 17)] #[3, 3])) fun ty pos af => ?_
      refine s_callS [_, _] F E138 rfl (by decide) (sum54 _ _ (by omega) (by omega) (by omega) (by omega) _) fun a F => ?_
      refine s_end ⟨hS, ?_⟩
      refine F.dv 9 19 (.call (.mk (.builtin .max) #[(.tmp 14), (.tmp 18)] #[3, 3])) hS (fun W hW => x_imax rfl rfl) fun a F => F.dv 10 20 (.nilCheck (.tmp 10)) hS (fun W hW => x_nil rfl) fun a F => F.dv 11 21 (.fieldAddr 126 (.tmp 20) 0) hS (fun W hW => x_fa0 fa59_0 rfl) fun a F => ?_
      refine d1 12 none (.store 3 (.tmp 21) (.tmp 19)) fun ty pos af => ?_
      refine s_put F rfl rfl flat3 mg (by simp) rfl fun w6 mg o7 => ?_
      have so7 := o7.size
      have hK := hK.only o7 (by omega)
      have hO := own_only hO o7 (hne)
      have hS := hS.only o7 (by omega)
      refine s_end ⟨hS, ?_⟩
      refine d_end (by kernel_rfl) (K4 _ _ ?_)
      show bodyPost Try.prog Try.f137 (fun e w' => ∃ u, e = .returned u ∧ (u = .tuple #[] ∧ ∃ v' o', FA 126 w0.heap.size w' g o' v' (rc (SL.num p) n c) (rk (SL.num p) n ks) ∧ (o' = o ∨ w1.heap.size ≤ o')) ∧ Ktw g o w1 w') .normal a w6
      refine post_normal (res_none F rfl ⟨_, rfl, ⟨rfl, _, _, ⟨mg, hO, hat, hne, by omega⟩, .inl rfl⟩, hK⟩)
    · refine d_op 8 (some 18) (.call (.mk (.value (.func 138)) #[(.tmp 15), (.tmp 17)] #[3, 3])) (by kernel_rfl) fun ty pos af => ?_
      refine s_callS [_, _] F E138 rfl (by decide) (sum54 _ _ (by omega) (by omega) (by omega) (by omega) _) fun a F => ?_
      refine s_end ⟨hS, ?_⟩
      refine d1 4 (some 14) (.load 3 (.tmp 13)) fun ty pos af => ?_
      refine F.ld mg flat3 rfl rfl fun a F => ?_
      refine s_end ⟨hS, ?_⟩
      refine F.dv 9 19 (.call (.mk (.builtin .max) #[(.tmp 14), (.tmp 18)] #[3, 3])) hS (fun W hW => x_imax rfl rfl) fun a F => F.dv 10 20 (.nilCheck (.tmp 10)) hS (fun W hW => x_nil rfl) fun a F => F.dv 11 21 (.fieldAddr 126 (.tmp 20) 0) hS (fun W hW => x_fa0 fa59_0 rfl) fun a F => ?_
      refine d1 12 none (.store 3 (.tmp 21) (.tmp 19)) fun ty pos af => ?_
      refine s_put F rfl rfl flat3 mg (by simp) rfl fun w8 mg o9 => ?_
      have so9 := o9.size
      have hK := hK.only o9 (by omega)
      have hO := own_only hO o9 (hne)
      have hS := hS.only o9 (by omega)
      refine s_end ⟨hS, ?_⟩
      refine d_end (by kernel_rfl) (K4 _ _ ?_)
      show bodyPost Try.prog Try.f137 (fun e w' => ∃ u, e = .returned u ∧ (u = .tuple #[] ∧ ∃ v' o', FA 126 w0.heap.size w' g o' v' (rc (SL.num p) n c) (rk (SL.num p) n ks) ∧ (o' = o ∨ w1.heap.size ≤ o')) ∧ Ktw g o w1 w') .normal a w8
      refine post_normal (res_none F rfl ⟨_, rfl, ⟨rfl, _, _, ⟨mg, hO, hat, hne, by omega⟩, .inl rfl⟩, hK⟩)
  | var i =>
    rintro ⟨k, m, vx⟩ hS0 hnm n o v c ks w1 hn0 hn1 hc0 hc1 hkl hB hA
    have hK := Ktw.refl g o w1
    have sB := hB.size
    have hlo := hA.lo
    have hgl := hA.lt
    obtain ⟨h1, h2, h3⟩ := hS0
    simp only at h1 h2
    subst h1 h2
    have hi : i < 1001 := hnm
    refine calls_fs 57 [(0, .pointer (some ⟨g, 0, none⟩)), (1, .agg [.int .i64 2, .int .i64 (i : Int), vx].toArray), (2, .int .i64 n)] Try.func137 rfl rfl rfl rfl rfl fun a F => ?_
    refine wp_rs fun _ K1 => ?_
    refine s_box ([.int .i64 2, .int .i64 (i : Int), vx]) F (by decide) rfl rfl fun w2 b4 a eb4 m4 B3 zb4 F => ?_
    have sB3 := B3.size
    have hK := hK.below B3
    have hA := hA.below B3
    refine s_end (K1 _ _ ?_)
    refine wp_rs fun _ K2 => F.vl (x_fa0 fa24_0 rfl) fun a F => F.ld m4 flat3 rfl rfl fun a F => ?_
    refine s_end (K2 _ _ ?_)
    refine wp_block ?_
    refine wp_rs fun _ K3 => F.vl (eqlF (by omega) rfl rfl) fun a F => F.sg rfl fun a F => ?_
    refine s_end (K3 _ _ ?_)
    refine wp_if F rfl ?_
    refine wp_rs fun _ K4 => F.vl (eqlT (by omega) rfl rfl) fun a F => F.sg rfl fun a F => ?_
    refine s_end (K4 _ _ ?_)
    refine wp_if F rfl ?_
    refine wp_region_lit ?_
    refine F.mv rfl fun a F => F.vl (x_fa0 fa24_1 rfl) fun a F => F.ld m4 flat3 rfl rfl fun a F => F.mv rfl fun a F => ?_
    refine s_call (R := fun u w' => (u = .tuple #[] ∧ ∃ v' o', FA 126 w0.heap.size w' g o' v' c (up ks i n) ∧ (o' = o ∨ w2.heap.size ≤ o')) ∧ Ktw g o w2 w') F [_, _, _] E107 rfl (by decide) (raiseVar48 w0.heap.size g o v c ks i n w2 hA (by omega) (by omega)) ?_
    rintro _ w4 a ⟨⟨rfl, v2, o2, hA, ho2⟩, k5⟩ F
    have sk5 := k5.size
    have hK := hK.trans k5 (by omega)
    refine s_end ?_
    show bodyPost Try.prog Try.f137 (fun e w' => ∃ u, e = .returned u ∧ (u = .tuple #[] ∧ ∃ v' o', FA 126 w0.heap.size w' g o' v' (rc (SL.var i) n c) (rk (SL.var i) n ks) ∧ (o' = o ∨ w1.heap.size ≤ o')) ∧ Ktw g o w1 w') .normal a w4
    refine post_normal (res_none F rfl ⟨_, rfl, ⟨rfl, _, _, hA, by omega⟩, hK⟩)
  | succ p sa iha =>
    rintro ⟨k, m, vx⟩ hS0 hnm n o v c ks w1 hn0 hn1 hc0 hc1 hkl hB hA
    have hK := Ktw.refl g o w1
    have sB := hB.size
    have hlo := hA.lo
    have hgl := hA.lt
    obtain ⟨h1, h2, y, h3, hy⟩ := hS0
    simp only at h1 h2 h3
    subst h1 h2
    have hp1 := hnm.1
    have hp2 := hnm.2.1
    obtain ⟨b, off, cp, rfl, hrow⟩ := rd_row1 h3
    refine calls_fs 57 [(0, .pointer (some ⟨g, 0, none⟩)), (1, .agg [.int .i64 3, .int .i64 (p : Int), .slice (some ⟨b, off, none⟩) 1 cp].toArray), (2, .int .i64 n)] Try.func137 rfl rfl rfl rfl rfl fun a F => ?_
    refine wp_rs fun _ K1 => ?_
    refine s_box ([.int .i64 3, .int .i64 (p : Int), .slice (some ⟨b, off, none⟩) 1 cp]) F (by decide) rfl rfl fun w2 b4 a eb4 m4 B3 zb4 F => ?_
    have sB3 := B3.size
    have hB := bt hB B3
    have hK := hK.below B3
    have hA := hA.below B3
    refine s_end (K1 _ _ ?_)
    refine wp_rs fun _ K2 => F.vl (x_fa0 fa24_0 rfl) fun a F => F.ld m4 flat3 rfl rfl fun a F => ?_
    refine s_end (K2 _ _ ?_)
    refine wp_block ?_
    refine wp_rs fun _ K3 => F.vl (eqlF (by omega) rfl rfl) fun a F => F.sg rfl fun a F => ?_
    refine s_end (K3 _ _ ?_)
    refine wp_if F rfl ?_
    refine wp_rs fun _ K4 => F.vl (eqlF (by omega) rfl rfl) fun a F => F.sg rfl fun a F => ?_
    refine s_end (K4 _ _ ?_)
    refine wp_if F rfl ?_
    refine wp_rs fun _ K5 => F.vl (eqlT (by omega) rfl rfl) fun a F => F.sg rfl fun a F => ?_
    refine s_end (K5 _ _ ?_)
    refine wp_if F rfl ?_
    refine dk2_one (g) (o) (ops := regOps Try.f137 7) (N := 10) (by kernel_rfl) wide_orders (by kernel_rfl) fun w4 hw4 B5 hS K6 K6 => ?_
    have zw4 : w4.heap.size = w2.heap.size := by rw [hw4]
    have sB5 := B5.size
    have hB := bt hB B5
    have hK := hK.below B5
    have hA := hA.below B5
    have m4 := m4.old B5
    have hA_d := hA
    have m4_d := m4
    have hB_d := hB
    have hK_d := hK
    refine F.dv 0 31 (.move (.tmp 0)) hS (fun W hW => x_move rfl) fun a F => F.dv 1 32 (.fieldAddr 24 (.tmp 4) 2) hS (fun W hW => x_fa0 fa24_2 rfl) fun a F => F.dv 2 33 (.load 22 (.tmp 32)) hS (fun W hW => x_load rfl (m_load flat22 ((m4_d.k2 hW (by omega)).cell (j := 2) rfl))) fun a F => F.dv 3 34 (.indexAddr 22 (.tmp 33) (.const (.int .i64 0))) hS (fun W hW => x_ixa rfl rfl (m_ixsK 0 Try.underlying22 el22.size rfl (by omega))) fun a F => F.dv 4 35 (.load 24 (.tmp 34)) hS (fun W hW => x_ldA wide24 (hrow _ (hW.under hB_d (by omega))) rfl rfl) fun a F => F.dv 5 36 (.move (.tmp 2)) hS (fun W hW => x_move rfl) fun a F => F.dv 6 37 (.fieldAddr 24 (.tmp 4) 1) hS (fun W hW => x_fa0 fa24_1 rfl) fun a F => F.dv 7 38 (.load 3 (.tmp 37)) hS (fun W hW => x_load rfl (m_load flat3 ((m4_d.k2 hW (by omega)).cell (j := 1) rfl))) fun a F => ?_
    refine d1 8 (some 39) (.call (.mk (.value (.func 138)) #[(.tmp 36), (.tmp 38)] #[3, 3])) fun ty pos af => ?_
    refine s_callS [_, _] F E138 rfl (by decide) (sum54 _ _ (by omega) (by omega) (by omega) (by omega) _) fun a F => ?_
    refine s_end ⟨hS, ?_⟩
    refine d1 9 (some 40) (.call (.mk (.value (.func 137)) #[(.tmp 31), (.tmp 35), (.tmp 39)] #[153, 24, 3])) fun ty pos af => ?_
    refine s_call (R := fun u w' => (u = .tuple #[] ∧ ∃ v' o', FA 126 w0.heap.size w' g o' v' (rc sa (cut (n + (p : Int))) (c)) (rk sa (cut (n + (p : Int))) (ks)) ∧ (o' = o ∨ w4.heap.size ≤ o')) ∧ Ktw g o w4 w') F [_, _, _] E137 rfl (by decide) (iha _ hy hnm.2.2 (cut (n + (p : Int))) _ _ (c) (ks) w4 (cut_nn (by omega)) (cut_le _) hc0 hc1 hkl hB hA) ?_
    rintro _ w6 a ⟨⟨rfl, v2, o2, hA, ho2⟩, k7⟩ F
    have sk7 := k7.size
    have hK := hK.trans k7 (by omega)
    have hS := hS.trans k7 (by omega)
    refine s_end ⟨hS, ?_⟩
    refine d_end (by kernel_rfl) (K6 _ _ ?_)
    show bodyPost Try.prog Try.f137 (fun e w' => ∃ u, e = .returned u ∧ (u = .tuple #[] ∧ ∃ v' o', FA 126 w0.heap.size w' g o' v' (rc (SL.succ p sa) n c) (rk (SL.succ p sa) n ks) ∧ (o' = o ∨ w1.heap.size ≤ o')) ∧ Ktw g o w1 w') .normal a w6
    refine post_normal (res_none F rfl ⟨_, rfl, ⟨rfl, _, _, hA, by omega⟩, hK⟩)
  | mx sa sb iha ihb =>
    rintro ⟨k, m, vx⟩ hS0 hnm n o v c ks w1 hn0 hn1 hc0 hc1 hkl hB hA
    have hK := Ktw.refl g o w1
    have sB := hB.size
    have hlo := hA.lo
    have hgl := hA.lt
    obtain ⟨h1, y, z, h3, hy, hz⟩ := hS0
    simp only at h1 h3
    subst h1
    obtain ⟨b, off, cp, rfl, hrow1, hrow2⟩ := rd_row2 h3
    refine calls_fs 57 [(0, .pointer (some ⟨g, 0, none⟩)), (1, .agg [.int .i64 4, .int .i64 m, .slice (some ⟨b, off, none⟩) 2 cp].toArray), (2, .int .i64 n)] Try.func137 rfl rfl rfl rfl rfl fun a F => ?_
    refine wp_rs fun _ K1 => ?_
    refine s_box ([.int .i64 4, .int .i64 m, .slice (some ⟨b, off, none⟩) 2 cp]) F (by decide) rfl rfl fun w2 b4 a eb4 m4 B3 zb4 F => ?_
    have sB3 := B3.size
    have hB := bt hB B3
    have hK := hK.below B3
    have hA := hA.below B3
    refine s_end (K1 _ _ ?_)
    refine wp_rs fun _ K2 => F.vl (x_fa0 fa24_0 rfl) fun a F => F.ld m4 flat3 rfl rfl fun a F => ?_
    refine s_end (K2 _ _ ?_)
    refine wp_block ?_
    refine wp_rs fun _ K3 => F.vl (eqlF (by omega) rfl rfl) fun a F => F.sg rfl fun a F => ?_
    refine s_end (K3 _ _ ?_)
    refine wp_if F rfl ?_
    refine wp_rs fun _ K4 => F.vl (eqlF (by omega) rfl rfl) fun a F => F.sg rfl fun a F => ?_
    refine s_end (K4 _ _ ?_)
    refine wp_if F rfl ?_
    refine wp_rs fun _ K5 => F.vl (eqlF (by omega) rfl rfl) fun a F => F.sg rfl fun a F => ?_
    refine s_end (K5 _ _ ?_)
    refine wp_if F rfl ?_
    refine wp_rs fun _ K6 => F.vl (eqlT (by omega) rfl rfl) fun a F => F.sg rfl fun a F => ?_
    refine s_end (K6 _ _ ?_)
    refine wp_if F rfl ?_
    refine wp_rs fun _ K7 => F.mv rfl fun a F => F.vl (x_fa0 fa24_2 rfl) fun a F => F.ld m4 flat22 rfl rfl fun a F => F.vl (x_ixa rfl rfl (m_ixsK 0 Try.underlying22 el22.size rfl (by omega))) fun a F => F.vl (x_ldA wide24 (hrow1 _ hB) rfl rfl) fun a F => F.mv rfl fun a F => ?_
    refine s_call (R := fun u w' => (u = .tuple #[] ∧ ∃ v' o', FA 126 w0.heap.size w' g o' v' (rc sa (n) (c)) (rk sa (n) (ks)) ∧ (o' = o ∨ w2.heap.size ≤ o')) ∧ Ktw g o w2 w') F [_, _, _] E137 rfl (by decide) (iha _ hy hnm.1 (n) _ _ (c) (ks) w2 hn0 hn1 hc0 hc1 hkl hB hA) ?_
    rintro _ w4 a ⟨⟨rfl, v2, o2, hA, ho2⟩, k5⟩ F
    have sk5 := k5.size
    have hB := k5.under hB (by omega)
    have hK := hK.trans k5 (by omega)
    have m4 := m4.k2 k5 (by omega)
    have hlo2 := hA.lo
    have hgl2 := hA.lt
    have hbd := rc_bd (s := sa) hn0 hn1 hc0 hc1
    refine s_end (K7 _ _ ?_)
    refine wp_region_lit ?_
    refine F.mv rfl fun a F => F.vl (x_fa0 fa24_2 rfl) fun a F => F.ld m4 flat22 rfl rfl fun a F => F.vl (x_ixa rfl rfl (m_ixsK 1 Try.underlying22 el22.size rfl (by omega))) fun a F => F.vl (x_ldA wide24 (hrow2 _ hB) rfl rfl) fun a F => F.mv rfl fun a F => ?_
    refine s_call (R := fun u w' => (u = .tuple #[] ∧ ∃ v' o', FA 126 w0.heap.size w' g o' v' (rc sb (n) (rc sa n c)) (rk sb (n) (rk sa n ks)) ∧ (o' = o2 ∨ w4.heap.size ≤ o')) ∧ Ktw g o2 w4 w') F [_, _, _] E137 rfl (by decide) (ihb _ hz hnm.2 (n) _ _ (rc sa n c) (rk sa n ks) w4 hn0 hn1 hbd.1 hbd.2 (rk_len sa n ks 1001 hnm.1 hkl) hB hA) ?_
    rintro _ w6 a ⟨⟨rfl, v3, o3, hA, ho3⟩, k7⟩ F
    have sk7 := k7.size
    have hK := hK.trans k7 (by omega)
    refine s_end ?_
    show bodyPost Try.prog Try.f137 (fun e w' => ∃ u, e = .returned u ∧ (u = .tuple #[] ∧ ∃ v' o', FA 126 w0.heap.size w' g o' v' (rc (SL.mx sa sb) n c) (rk (SL.mx sa sb) n ks) ∧ (o' = o ∨ w1.heap.size ≤ o')) ∧ Ktw g o w1 w') .normal a w6
    refine post_normal (res_none F rfl ⟨_, rfl, ⟨rfl, _, _, hA, by omega⟩, hK⟩)
theorem max63 (ks : List Int) (v : Value) (w0 : World) (hn : 0 < ks.length) (hl : ks.length ≤ 9223372036854775807) (hLo : Lo ks) (hV : Rd w0 v 1 ks.length (ints ks)) : Calls Try.prog 139 #[v] w0 fun e w' => e = .returned (.int .i64 (mxl ks)) ∧ w' = w0 := by
 obtain ⟨b, off, cv, hve, hrow0⟩ := rd_rowI hV (i := 0) hn
 subst hve
 have hBr := Below.refl w0.heap.size w0
 have h0 := hLo.gt 0
 refine calls_fs 25 [(0, .slice (some ⟨b, off, none⟩) ks.length cv)] Try.func139 rfl rfl rfl rfl rfl fun a F => ?_
 refine wp_rs fun _ K1 => F.sg rfl fun a F => ?_
 refine s_end (K1 _ _ ?_)
 refine wp_seq_k fun _ K2 => ?_
 refine wp_rs fun _ K3 => F.mv rfl fun a F => F.vl (x_len Try.underlying92 rfl) fun a F => F.vl (lssF (by omega) rfl rfl) fun a F => ?_
 refine s_end (K3 _ _ ?_)
 refine wp_if F rfl ?_
 refine wp_skip (K2 _ _ ?_)
 refine wp_rs fun _ K4 => F.mv rfl fun a F => F.vl (x_ixa rfl rfl (m_ixs 0 Try.underlying92 el29.size rfl (by omega))) fun a F => F.vl (x_load rfl (m_load flat3 (hrow0 _ hBr))) fun a F => F.sg rfl fun a F => ?_
 refine s_end (K4 _ _ ?_)
 refine wp_seq_k fun _ K5 => ?_
 refine wp_rs fun _ K6 => F.sg rfl fun a F => ?_
 refine s_end (K6 _ _ ?_)
 refine wp_block ?_
 refine wp_up (ks.length - 1) (fun j a w => w = w0 ∧ Fs 25 a [(3, .int .i64 ((ks.take (j + 1)).foldl max (-1))), (4, .int .i64 ((j + 1 : Nat) : Int)), (0, .slice (some ⟨b, off, none⟩) ks.length cv)]) ⟨rfl, ?_⟩ ?_
 ·
  have e1 : (ks.take 1).foldl max (-1) = gt ks 0 := by rw [List.take_one, List.head?_eq_getElem?, List.getElem?_eq_getElem hn, gt_lt hn]; simp only [Option.toList_some, List.foldl_cons, List.foldl_nil]; rw [gt_lt hn] at h0; omega
  refine F.sub _ ?_
  show [_, _, _] = [_, _, _]
  rw [show (0 + 1 : Nat) = 1 from rfl, e1]
  rfl
 clear F
 rintro j a w hj ⟨rfl, F⟩ K' hK'
 refine wp_seq_k fun _ K7 => ?_
 refine wp_rs fun _ K8 => F.mv rfl fun a F => F.mv rfl fun a F => F.vl (x_len Try.underlying92 rfl) fun a F => F.vl (x_lss (b := decide (j + 1 < ks.length)) (decide_eq_decide.2 (by omega)) rfl rfl) fun a F => ?_
 refine s_end (K8 _ _ ?_)
 refine wp_iff F rfl (fun hc15 => ?_) (fun hc15 => ?_)
 ·
  obtain ⟨b2, off2, cv2, hve, hrow⟩ := rd_rowI hV (i := j + 1) (by omega)
  cases hve
  refine wp_skip (K7 _ _ ?_)
  refine wp_seq_k fun _ K9 => ?_
  refine wp_block ?_
  refine wp_region_lit ?_
  refine F.mv rfl fun a F => F.mv rfl fun a F => F.mv rfl fun a F => F.vl (x_ixa rfl rfl (m_ixs (j + 1) Try.underlying92 el29.size rfl (by omega))) fun a F => F.vl (x_load rfl (m_load flat3 (hrow _ hBr))) fun a F => F.vl (x_imax rfl rfl) fun a F => F.sg rfl fun a F => ?_
  refine s_end (K9 _ _ ?_)
  refine wp_region_lit ?_
  refine F.mv rfl fun a F => F.vl (x_addn (j + 1 + 1) (by omega) (by omega) rfl rfl) fun a F => F.sg rfl fun a F => ?_
  have e1 : (ks.take (j + 1 + 1)).foldl max (-1) = max ((ks.take (j + 1)).foldl max (-1)) (gt ks (j + 1)) := by rw [List.take_add_one, List.getElem?_eq_getElem (by omega), gt_lt (by omega), List.foldl_append]; rfl
  refine s_end (hK' _ _ (by omega) ⟨rfl, F.sub _ (by rw [e1]; rfl)⟩)
 ·
  refine wp_exit (K5 _ _ ?_)
  refine wp_rs fun _ K10 => F.mv rfl fun a F => F.sg rfl fun a F => ?_
  refine s_end (K10 _ _ ?_)
  refine wp_ret (res_slot F rfl rfl ⟨by rw [mxl, List.take_of_length_le (by omega)], rfl⟩)
theorem equal62 (ks ls : List Int) (v u : Value) (w0 : World) (hl : ks.length ≤ 9223372036854775807) (hV : Rd w0 v 1 ks.length (ints ks)) (hU : Rd w0 u 1 ls.length (ints ls)) : Calls Try.prog 159 #[v, u] w0 fun e w' => e = .returned (.bool (decide (ks = ls))) ∧ Below w0.heap.size w0 w' := by
 obtain ⟨av, cv, hve, _⟩ := hV.form
 obtain ⟨au, cu, hue, _⟩ := hU.form
 subst hve hue
 have hB := Below.refl w0.heap.size w0
 have sB := hB.size
 refine calls_fs 26 [(0, .slice av ks.length cv), (1, .slice au ls.length cu)] Try.func159 rfl rfl rfl rfl rfl fun a F => ?_
 refine wp_rs fun _ K1 => F.sg rfl fun a F => ?_
 refine s_end (K1 _ _ ?_)
 refine wp_seq_k fun _ K2 => ?_
 rcases (show ks.length ≠ ls.length ∨ ks.length = ls.length by omega) with hq | hq
 ·
  skip
  refine wp_rs fun _ K4 => F.mv rfl fun a F => F.vl (x_len Try.underlying92 rfl) fun a F => F.mv rfl fun a F => F.vl (x_len Try.underlying92 rfl) fun a F => F.vl (neqT (by omega) rfl rfl) fun a F => ?_
  refine s_end (K4 _ _ ?_)
  refine wp_if F rfl ?_
  refine wp_rs fun _ K5 => F.sg rfl fun a F => ?_
  refine s_end (K5 _ _ ?_)
  refine wp_ret (then_ret (res_slot F rfl rfl ⟨by rw [decide_eq_false (fun h => hq (by rw [h]))], hB⟩))
 ·
  skip
  refine wp_rs fun _ K6 => F.mv rfl fun a F => F.vl (x_len Try.underlying92 rfl) fun a F => F.mv rfl fun a F => F.vl (x_len Try.underlying92 rfl) fun a F => F.vl (neqF (by omega) rfl rfl) fun a F => ?_
  refine s_end (K6 _ _ ?_)
  refine wp_if F rfl ?_
  refine wp_skip (K2 _ _ ?_)
  refine wp_seq_k fun _ K7 => ?_
  refine wp_rs fun _ K8 => F.mv rfl fun a F => F.vl (x_len Try.underlying92 rfl) fun a F => F.mv rfl fun a F => ?_
  refine s_end (K8 _ _ ?_)
  refine wp_block ?_
  refine wp_up ks.length (fun i a w => ks.take i = ls.take i ∧ Below w0.heap.size w0 w ∧ Fs 26 a [(13, .int .i64 (i : Int)), (12, .int .i64 (ks.length : Int)), (0, .slice av ks.length cv), (1, .slice au ls.length cu)]) ⟨by simp, hB, F.sub _ rfl⟩ ?_
  clear F hB
  rintro i a w hi ⟨heq, hB, F⟩ K' hK'
  have sB := hB.size
  refine wp_rs fun _ K9 => F.vl (x_lss rfl rfl rfl) fun a F => ?_
  refine s_end (K9 _ _ ?_)
  refine wp_seq_k fun _ K10 => ?_
  refine wp_iff F rfl (fun hc14 => ?_) (fun hc14 => ?_)
  ·
   obtain ⟨b1, off1, c1, hve, hrow1⟩ := rd_rowI hV (i := i) (by omega)
   cases hve
   obtain ⟨b2, off2, c2, hve, hrow2⟩ := rd_rowI hU (i := i) (by omega)
   cases hve
   refine wp_skip (K10 _ _ ?_)
   refine wp_seq_k fun _ K11 => ?_
   refine wp_block ?_
   refine wp_rs fun _ K12 => F.mv rfl fun a F => F.sg rfl fun a F => ?_
   refine s_end (K12 _ _ ?_)
   refine dk2_seq (w.heap.size) (w.heap.size) (ops := regOps Try.f159 6) (N := 9) (by kernel_rfl) wide_orders (by kernel_rfl) fun w2 hw2 B3 hS K13 hK13 => ?_
   have zw2 : w2.heap.size = w.heap.size := by rw [hw2]
   have sB3 := B3.size
   have hB := bt hB B3
   have hB_d := hB
   refine F.dv 0 16 (.move (.tmp 0)) hS (fun W hW => x_move rfl) fun a F => F.dv 1 17 (.move (.tmp 5)) hS (fun W hW => x_move rfl) fun a F => F.dv 2 18 (.indexAddr 92 (.tmp 16) (.tmp 17)) hS (fun W hW => x_ixa rfl rfl (m_ixs i Try.underlying92 el29.size rfl (by omega))) fun a F => F.dv 3 19 (.load 3 (.tmp 18)) hS (fun W hW => x_load rfl (m_load flat3 (hrow1 _ (hW.under hB_d (by omega))))) fun a F => F.dv 4 20 (.move (.tmp 1)) hS (fun W hW => x_move rfl) fun a F => F.dv 5 21 (.move (.tmp 5)) hS (fun W hW => x_move rfl) fun a F => F.dv 6 22 (.indexAddr 92 (.tmp 20) (.tmp 21)) hS (fun W hW => x_ixa rfl rfl (m_ixs i Try.underlying92 el29.size rfl (by omega))) fun a F => F.dv 7 23 (.load 3 (.tmp 22)) hS (fun W hW => x_load rfl (m_load flat3 (hrow2 _ (hW.under hB_d (by omega))))) fun a F => F.dv 8 24 (.binOp .neq 3 (.tmp 19) (.tmp 23) 3) hS (fun W hW => x_neq rfl rfl rfl) fun a F => ?_
   refine d_end (by kernel_rfl) (hK13 _ _ ?_)
   refine wp_iff F rfl (fun hc24 => ?_) (fun hc24 => ?_)
   ·
    refine wp_rs fun _ K14 => F.sg rfl fun a F => ?_
    refine s_end (K14 _ _ ?_)
    refine wp_ret (inb_ret (then_ret (then_ret (inb_ret (then_ret (res_slot F rfl rfl ⟨by rw [decide_eq_false (fun h => hc24 (by rw [h]))], hB⟩))))))
   ·
    refine wp_skip (K11 _ _ ?_)
    refine wp_region_lit ?_
    refine F.vl (x_addn (i + 1) (by omega) (by omega) rfl rfl) fun a F => F.mv rfl fun a F => ?_
    have heq2 : ks.take (i + 1) = ls.take (i + 1) := by rw [List.take_add_one, List.take_add_one, heq, List.getElem?_eq_getElem (by omega), List.getElem?_eq_getElem (by omega)]; rw [gt_lt (by omega), gt_lt (by omega)] at hc24; rw [show ks[i] = ls[i] by omega]
    refine s_end (hK' _ _ (by omega) ⟨heq2, hB, F.sub _ rfl⟩)
  ·
   refine wp_exit (K7 _ _ ?_)
   refine wp_rs fun _ K15 => F.sg rfl fun a F => ?_
   refine s_end (K15 _ _ ?_)
   refine wp_ret (res_slot F rfl rfl ⟨by rw [decide_eq_true (show ks = ls by rw [← List.take_of_length_le (l := ks) (i := i) (by omega), ← List.take_of_length_le (l := ls) (i := i) (by omega)]; exact heq)], hB⟩)
theorem settle47 (base g o : Nat) (v : Value) (c : Int) (ks : List Int) (w1 : World) (hA : FA 126 base w1 g o v c ks) (hks : ks.length ≤ 3000) (hLo : Lo ks) (hc : 0 ≤ c) :
    Calls Try.prog 109 #[.pointer (some ⟨g, 0, none⟩)] w1 fun e w' => ∃ u, e = .returned u ∧ (u = .tuple #[] ∧ FA 126 base w' g o v (setl c ks) ks) ∧ Ktw g o w1 w' := by
  have hK := Ktw.refl g o w1
  have hlo := hA.lo
  obtain ⟨av, cv, rfl, hcv⟩ := hA.form
  have mg := hA.blk
  have hO := hA.own
  have hat := hA.at'
  have hne := hA.ne
  have hgl := mg.lt
  refine calls_fs 23 [(0, .pointer (some ⟨g, 0, none⟩))] Try.func109 rfl rfl rfl rfl rfl fun a F => ?_
  rcases (show ks.length = 0 ∨ (0 < ks.length ∧ c ≤ mxl ks) ∨ (0 < ks.length ∧ mxl ks < c) by omega) with hq | hq | hq
  · have hz : setl c ks = c := by rw [List.eq_nil_of_length_eq_zero hq]; have := setl_is c []; have h2 : mxl [] = -1 := rfl; omega
    refine dk2_seq (w1.heap.size) (w1.heap.size) (ops := regOps Try.f109 0) (N := 18) (by kernel_rfl) wide_orders (by kernel_rfl) fun w2 hw2 B3 hS K2 K2 => ?_
    have zw2 : w2.heap.size = w1.heap.size := by rw [hw2]
    have sB3 := B3.size
    have hK := hK.below B3
    have mg := mg.old B3
    have hO := own_below hO B3
    have mg_d := mg
    have hO_d := hO
    have hK_d := hK
    refine F.dv 0 2 (.move (.tmp 0)) hS (fun W hW => x_move rfl) fun a F => F.dv 1 3 (.nilCheck (.tmp 2)) hS (fun W hW => x_nil rfl) fun a F => F.dv 2 4 (.fieldAddr 126 (.tmp 3) 1) hS (fun W hW => x_fa0 fa59_1 rfl) fun a F => F.dv 3 5 (.load 92 (.tmp 4)) hS (fun W hW => x_load rfl (m_load flat29 ((mg_d.k2 hW (by omega)).cell (j := 1) rfl))) fun a F => F.dv 4 6 (.call (.mk (.builtin .len) #[(.tmp 5)] #[92])) hS (fun W hW => x_len Try.underlying92 rfl) fun a F => F.dv 5 7 (.binOp .gtr 3 (.tmp 6) (.const (.int .i64 0)) 3) hS (fun W hW => gtrF (by omega) rfl rfl) fun a F => F.dv 6 8 (.move (.tmp 7)) hS (fun W hW => x_move rfl) fun a F => d_skip 7 9 8 (j := 6) (want := true) (op := (.move (.tmp 0))) F hS (by kernel_rfl) (by kernel_rfl) rfl (by kernel_rfl) (by decide) fun a F => d_skip 8 10 8 (j := 6) (want := true) (op := (.nilCheck (.tmp 9))) F hS (by kernel_rfl) (by kernel_rfl) rfl (by kernel_rfl) (by decide) fun a F => d_skip 9 11 8 (j := 6) (want := true) (op := (.fieldAddr 126 (.tmp 10) 1)) F hS (by kernel_rfl) (by kernel_rfl) rfl (by kernel_rfl) (by decide) fun a F => d_skip 10 12 8 (j := 6) (want := true) (op := (.load 92 (.tmp 11))) F hS (by kernel_rfl) (by kernel_rfl) rfl (by kernel_rfl) (by decide) fun a F => d_skip 11 13 8 (j := 6) (want := true) (op := (.call (.mk (.value (.func 139)) #[(.tmp 12)] #[92]))) F hS (by kernel_rfl) (by kernel_rfl) rfl (by kernel_rfl) (by decide) fun a F => d_skip 12 14 8 (j := 6) (want := true) (op := (.move (.tmp 0))) F hS (by kernel_rfl) (by kernel_rfl) rfl (by kernel_rfl) (by decide) fun a F => d_skip 13 15 8 (j := 6) (want := true) (op := (.nilCheck (.tmp 14))) F hS (by kernel_rfl) (by kernel_rfl) rfl (by kernel_rfl) (by decide) fun a F => d_skip 14 16 8 (j := 6) (want := true) (op := (.fieldAddr 126 (.tmp 15) 0)) F hS (by kernel_rfl) (by kernel_rfl) rfl (by kernel_rfl) (by decide) fun a F => d_skip 15 17 8 (j := 6) (want := true) (op := (.load 3 (.tmp 16))) F hS (by kernel_rfl) (by kernel_rfl) rfl (by kernel_rfl) (by decide) fun a F => d_skip 16 18 8 (j := 6) (want := true) (op := (.binOp .geq 3 (.tmp 13) (.tmp 17) 3)) F hS (by kernel_rfl) (by kernel_rfl) rfl (by kernel_rfl) (by decide) fun a F => F.dv 17 19 (.pick (.tmp 8) (.tmp 18) (.const (.bool false))) hS (fun W hW => x_pick (b := false) rfl rfl) fun a F => ?_
    refine d_end (by kernel_rfl) (K2 _ _ ?_)
    refine wp_if F rfl ?_
    refine wp_skip ?_
    show bodyPost Try.prog Try.f109 (_) .normal a w2
    refine post_normal (res_none F rfl ⟨_, rfl, ⟨rfl, ⟨by rw [hz]; exact mg, hO, hat, hne, by have := hK.size; omega⟩⟩, hK⟩)
  · have hz : setl c ks = 0 := by have := setl_is c ks; omega
    refine dk2_seq (w1.heap.size) (w1.heap.size) (ops := regOps Try.f109 0) (N := 18) (by kernel_rfl) wide_orders (by kernel_rfl) fun w4 hw4 B5 hS K3 K3 => ?_
    have zw4 : w4.heap.size = w1.heap.size := by rw [hw4]
    have sB5 := B5.size
    have hK := hK.below B5
    have mg := mg.old B5
    have hO := own_below hO B5
    have mg_d := mg
    have hO_d := hO
    have hK_d := hK
    refine F.dv 0 2 (.move (.tmp 0)) hS (fun W hW => x_move rfl) fun a F => F.dv 1 3 (.nilCheck (.tmp 2)) hS (fun W hW => x_nil rfl) fun a F => F.dv 2 4 (.fieldAddr 126 (.tmp 3) 1) hS (fun W hW => x_fa0 fa59_1 rfl) fun a F => F.dv 3 5 (.load 92 (.tmp 4)) hS (fun W hW => x_load rfl (m_load flat29 ((mg_d.k2 hW (by omega)).cell (j := 1) rfl))) fun a F => F.dv 4 6 (.call (.mk (.builtin .len) #[(.tmp 5)] #[92])) hS (fun W hW => x_len Try.underlying92 rfl) fun a F => F.dv 5 7 (.binOp .gtr 3 (.tmp 6) (.const (.int .i64 0)) 3) hS (fun W hW => gtrT (by omega) rfl rfl) fun a F => F.dv 6 8 (.move (.tmp 7)) hS (fun W hW => x_move rfl) fun a F => F.dg 7 9 8 6 true (.move (.tmp 0)) hS rfl (fun W hW => x_move rfl) fun a F => F.dg 8 10 8 6 true (.nilCheck (.tmp 9)) hS rfl (fun W hW => x_nil rfl) fun a F => F.dg 9 11 8 6 true (.fieldAddr 126 (.tmp 10) 1) hS rfl (fun W hW => x_fa0 fa59_1 rfl) fun a F => F.dg 10 12 8 6 true (.load 92 (.tmp 11)) hS rfl (fun W hW => x_load rfl (m_load flat29 ((mg_d.k2 hW (by omega)).cell (j := 1) rfl))) fun a F => F.dg 12 14 8 6 true (.move (.tmp 0)) hS rfl (fun W hW => x_move rfl) fun a F => F.dg 13 15 8 6 true (.nilCheck (.tmp 14)) hS rfl (fun W hW => x_nil rfl) fun a F => F.dg 14 16 8 6 true (.fieldAddr 126 (.tmp 15) 0) hS rfl (fun W hW => x_fa0 fa59_0 rfl) fun a F => F.dg 15 17 8 6 true (.load 3 (.tmp 16)) hS rfl (fun W hW => x_load rfl (m_load flat3 ((mg_d.k2 hW (by omega)).cell (j := 0) rfl))) fun a F => ?_
    refine d_oneg 11 8 (some 13) (.call (.mk (.value (.func 139)) #[(.tmp 12)] #[92])) (j := 6) (want := true) F (by kernel_rfl) (by kernel_rfl) (by kernel_rfl) rfl fun ty pos af => ?_
    refine s_callS [_] F E139 rfl (by decide) (max63 ks _ _ (by omega) (by omega) hLo (Rd.own hO)) fun a F => ?_
    refine s_end ⟨hS, ?_⟩
    refine F.dg 16 18 8 6 true (.binOp .geq 3 (.tmp 13) (.tmp 17) 3) hS rfl (fun W hW => geqT (by omega) rfl rfl) fun a F => F.dv 17 19 (.pick (.tmp 8) (.tmp 18) (.const (.bool false))) hS (fun W hW => x_pick (b := true) rfl rfl) fun a F => ?_
    refine d_end (by kernel_rfl) (K3 _ _ ?_)
    refine wp_if F rfl ?_
    refine wp_region_lit ?_
    refine F.mv rfl fun a F => F.vl (x_nil rfl) fun a F => F.vl (x_fa0 fa59_0 rfl) fun a F => ?_
    refine s_put F rfl rfl flat3 mg (by simp) rfl fun w6 mg o7 => ?_
    have so7 := o7.size
    have hK := hK.only o7 (by omega)
    have hO := own_only hO o7 (hne)
    refine s_end ?_
    show bodyPost Try.prog Try.f109 (_) .normal a w6
    refine post_normal (res_none F rfl ⟨_, rfl, ⟨rfl, ⟨by rw [hz]; exact mg, hO, hat, hne, by have := hK.size; omega⟩⟩, hK⟩)
  · have hz : setl c ks = c := by have := setl_is c ks; omega
    refine dk2_seq (w1.heap.size) (w1.heap.size) (ops := regOps Try.f109 0) (N := 18) (by kernel_rfl) wide_orders (by kernel_rfl) fun w8 hw8 B9 hS K4 K4 => ?_
    have zw8 : w8.heap.size = w1.heap.size := by rw [hw8]
    have sB9 := B9.size
    have hK := hK.below B9
    have mg := mg.old B9
    have hO := own_below hO B9
    have mg_d := mg
    have hO_d := hO
    have hK_d := hK
    refine F.dv 0 2 (.move (.tmp 0)) hS (fun W hW => x_move rfl) fun a F => F.dv 1 3 (.nilCheck (.tmp 2)) hS (fun W hW => x_nil rfl) fun a F => F.dv 2 4 (.fieldAddr 126 (.tmp 3) 1) hS (fun W hW => x_fa0 fa59_1 rfl) fun a F => F.dv 3 5 (.load 92 (.tmp 4)) hS (fun W hW => x_load rfl (m_load flat29 ((mg_d.k2 hW (by omega)).cell (j := 1) rfl))) fun a F => F.dv 4 6 (.call (.mk (.builtin .len) #[(.tmp 5)] #[92])) hS (fun W hW => x_len Try.underlying92 rfl) fun a F => F.dv 5 7 (.binOp .gtr 3 (.tmp 6) (.const (.int .i64 0)) 3) hS (fun W hW => gtrT (by omega) rfl rfl) fun a F => F.dv 6 8 (.move (.tmp 7)) hS (fun W hW => x_move rfl) fun a F => F.dg 7 9 8 6 true (.move (.tmp 0)) hS rfl (fun W hW => x_move rfl) fun a F => F.dg 8 10 8 6 true (.nilCheck (.tmp 9)) hS rfl (fun W hW => x_nil rfl) fun a F => F.dg 9 11 8 6 true (.fieldAddr 126 (.tmp 10) 1) hS rfl (fun W hW => x_fa0 fa59_1 rfl) fun a F => F.dg 10 12 8 6 true (.load 92 (.tmp 11)) hS rfl (fun W hW => x_load rfl (m_load flat29 ((mg_d.k2 hW (by omega)).cell (j := 1) rfl))) fun a F => F.dg 12 14 8 6 true (.move (.tmp 0)) hS rfl (fun W hW => x_move rfl) fun a F => F.dg 13 15 8 6 true (.nilCheck (.tmp 14)) hS rfl (fun W hW => x_nil rfl) fun a F => F.dg 14 16 8 6 true (.fieldAddr 126 (.tmp 15) 0) hS rfl (fun W hW => x_fa0 fa59_0 rfl) fun a F => F.dg 15 17 8 6 true (.load 3 (.tmp 16)) hS rfl (fun W hW => x_load rfl (m_load flat3 ((mg_d.k2 hW (by omega)).cell (j := 0) rfl))) fun a F => ?_
    refine d_oneg 11 8 (some 13) (.call (.mk (.value (.func 139)) #[(.tmp 12)] #[92])) (j := 6) (want := true) F (by kernel_rfl) (by kernel_rfl) (by kernel_rfl) rfl fun ty pos af => ?_
    refine s_callS [_] F E139 rfl (by decide) (max63 ks _ _ (by omega) (by omega) hLo (Rd.own hO)) fun a F => ?_
    refine s_end ⟨hS, ?_⟩
    refine F.dg 16 18 8 6 true (.binOp .geq 3 (.tmp 13) (.tmp 17) 3) hS rfl (fun W hW => geqF (by omega) rfl rfl) fun a F => F.dv 17 19 (.pick (.tmp 8) (.tmp 18) (.const (.bool false))) hS (fun W hW => x_pick (b := true) rfl rfl) fun a F => ?_
    refine d_end (by kernel_rfl) (K4 _ _ ?_)
    refine wp_if F rfl ?_
    refine wp_skip ?_
    show bodyPost Try.prog Try.f109 (_) .normal a w8
    refine post_normal (res_none F rfl ⟨_, rfl, ⟨rfl, ⟨by rw [hz]; exact mg, hO, hat, hne, by have := hK.size; omega⟩⟩, hK⟩)
end Go.Proofs.Ytbhhbfdoadecgaa

namespace Go.Proofs.Ytbhhbfdoadecgaa
open Go.RowKit Go.Shelf
set_option linter.unusedVariables false
set_option linter.unusedSimpArgs false
/-- x reads as s, and its memory lies in blocks of A alone. -/
def RSn (W : World) (A : Nat → Prop) : SL → C3 → Prop
 | .num n, x => x.1 = 1 ∧ x.2.1 = (n : Int) ∧ Rd W x.2.2 3 0 []
 | .var i, x => x.1 = 2 ∧ x.2.1 = (i : Int) ∧ Rd W x.2.2 3 0 []
 | .succ n a, x => x.1 = 3 ∧ x.2.1 = (n : Int) ∧ ∃ y, Rd W x.2.2 3 1 (lc y) ∧ (∀ j, x.2.2.ownBlock = some j → A j) ∧ RSn W A a y
 | .mx a b, x => x.1 = 4 ∧ ∃ y z, Rd W x.2.2 3 2 (lc y ++ lc z) ∧ (∀ j, x.2.2.ownBlock = some j → A j) ∧ RSn W A a y ∧ RSn W A b z
section
variable {W W' : World} {A B : Nat → Prop}
theorem RSn.rs : ∀ {s : SL} {x : C3}, RSn W A s x → RS W s x
 | .num _, _, h => h
 | .var _, _, h => h
 | .succ _ _, _, ⟨h1, h2, y, h3, _, h5⟩ => ⟨h1, h2, y, h3, RSn.rs h5⟩
 | .mx _ _, _, ⟨h1, y, z, h3, _, h5, h6⟩ => ⟨h1, y, z, h3, RSn.rs h5, RSn.rs h6⟩
theorem RS.n : ∀ {s : SL} {x : C3}, RS W s x → RSn W (fun k => k < W.heap.size) s x
 | .num _, _, h => h
 | .var _, _, h => h
 | .succ _ _, _, ⟨h1, h2, y, h3, h5⟩ => ⟨h1, h2, y, h3, fun j hj => h3.lt (by decide) hj, RS.n h5⟩
 | .mx _ _, _, ⟨h1, y, z, h3, h5, h6⟩ => ⟨h1, y, z, h3, fun j hj => h3.lt (by decide) hj, RS.n h5, RS.n h6⟩
theorem RSn.mono (h : ∀ k, A k → B k) : ∀ {s : SL} {x : C3}, RSn W A s x → RSn W B s x
 | .num _, _, h => h
 | .var _, _, h => h
 | .succ _ _, _, ⟨h1, h2, y, h3, h4, h5⟩ => ⟨h1, h2, y, h3, fun j hj => h j (h4 j hj), RSn.mono h h5⟩
 | .mx _ _, _, ⟨h1, y, z, h3, h4, h5, h6⟩ => ⟨h1, y, z, h3, fun j hj => h j (h4 j hj), RSn.mono h h5, RSn.mono h h6⟩
theorem RSn.valid : ∀ {s : SL} {x : C3}, RSn W A s x → RSn W (fun k => A k ∧ k < W.heap.size) s x
 | .num _, _, h => h
 | .var _, _, h => h
 | .succ _ _, _, ⟨h1, h2, y, h3, h4, h5⟩ => ⟨h1, h2, y, h3, fun j hj => ⟨h4 j hj, h3.lt (by decide) hj⟩, RSn.valid h5⟩
 | .mx _ _, _, ⟨h1, y, z, h3, h4, h5, h6⟩ => ⟨h1, y, z, h3, fun j hj => ⟨h4 j hj, h3.lt (by decide) hj⟩, RSn.valid h5, RSn.valid h6⟩
theorem rd0_any {v : Value} {cs : List Value} (h : Rd W v 3 0 cs) : Rd W' v 3 0 cs := by
 refine ⟨h.1, ?_⟩
 obtain ⟨a, c, rfl, _, h0⟩ := h.form
 exact .inl ⟨a, c, rfl, rfl, h0⟩
theorem RSn.keep (hs : W.heap.size ≤ W'.heap.size) (hk : ∀ k, A k → k < W.heap.size → W'.heap[k]? = W.heap[k]?) : ∀ {s : SL} {x : C3}, RSn W A s x → RSn W' A s x
 | .num _, _, ⟨h1, h2, h3⟩ => ⟨h1, h2, rd0_any h3⟩
 | .var _, _, ⟨h1, h2, h3⟩ => ⟨h1, h2, rd0_any h3⟩
 | .succ _ _, _, ⟨h1, h2, y, h3, h4, h5⟩ => ⟨h1, h2, y, h3.keep hs (fun b hb hl => hk b (h4 b hb) hl), h4, RSn.keep hs hk h5⟩
 | .mx _ _, _, ⟨h1, y, z, h3, h4, h5, h6⟩ => ⟨h1, y, z, h3.keep hs (fun b hb hl => hk b (h4 b hb) hl), h4, RSn.keep hs hk h5, RSn.keep hs hk h6⟩
theorem RSn.below {s : SL} {x : C3} (h : RSn W A s x) (hB : Below W.heap.size W W') : RSn W' A s x := RSn.keep hB.size (fun k _ hk => hB.block k hk) h
theorem RSn.only {s : SL} {x : C3} {c : Nat} (h : RSn W A s x) (o : Only c W W') (hc : ∀ k, A k → k ≠ c) : RSn W' A s x := RSn.keep (Nat.le_of_eq o.size.symm) (fun k ha _ => o.block k (hc k ha)) h
theorem RSn.k2 {s : SL} {x : C3} {a b : Nat} (h : RSn W A s x) (hK : Ktw a b W W') (hc : ∀ k, A k → k ≠ a ∧ k ≠ b) : RSn W' A s x := RSn.keep hK.size (fun k ha hk => hK.block k hk (hc k ha)) h
end
/-- Rows of levels. -/
def PL (W : World) (A : Nat → Prop) (zs : List C3) (ps : List SL) : Prop := zs.length = ps.length ∧ ∀ (j : Nat) z p, zs[j]? = some z → ps[j]? = some p → RSn W A p z
section
variable {W W' : World} {A B : Nat → Prop} {zs : List C3} {ps : List SL}
theorem PL.nil : PL W A [] [] := ⟨rfl, fun j z p h => by simp at h⟩
theorem PL.mono (h : PL W A zs ps) (hm : ∀ k, A k → B k) : PL W B zs ps := ⟨h.1, fun j z p h1 h2 => (h.2 j z p h1 h2).mono hm⟩
theorem PL.valid (h : PL W A zs ps) : PL W (fun k => A k ∧ k < W.heap.size) zs ps := ⟨h.1, fun j z p h1 h2 => (h.2 j z p h1 h2).valid⟩
theorem PL.keep (h : PL W A zs ps) (hs : W.heap.size ≤ W'.heap.size) (hk : ∀ k, A k → k < W.heap.size → W'.heap[k]? = W.heap[k]?) : PL W' A zs ps := ⟨h.1, fun j z p h1 h2 => RSn.keep hs hk (h.2 j z p h1 h2)⟩
theorem PL.below (h : PL W A zs ps) (hB : Below W.heap.size W W') : PL W' A zs ps := h.keep hB.size fun k _ hk => hB.block k hk
theorem PL.only {c : Nat} (h : PL W A zs ps) (o : Only c W W') (hc : ∀ k, A k → k ≠ c) : PL W' A zs ps := h.keep (Nat.le_of_eq o.size.symm) fun k ha _ => o.block k (hc k ha)
theorem PL.k2 {a b : Nat} (h : PL W A zs ps) (hK : Ktw a b W W') (hc : ∀ k, A k → k ≠ a ∧ k ≠ b) : PL W' A zs ps := h.keep hK.size fun k ha hk => hK.block k hk (hc k ha)
theorem PL.snoc {z : C3} {p : SL} (h : PL W A zs ps) (hz : RSn W A p z) : PL W A (zs ++ [z]) (ps ++ [p]) := by
 refine ⟨by simp [h.1], fun j z' p' h1 h2 => ?_⟩
 have hl := h.1
 rw [List.getElem?_append] at h1 h2
 by_cases hj : j < zs.length
 ·
  rw [if_pos hj] at h1
  rw [if_pos (by omega)] at h2
  exact h.2 j z' p' h1 h2
 ·
  rw [if_neg hj] at h1
  rw [if_neg (by omega)] at h2
  have e : j - zs.length = 0 := by
   have := (List.getElem?_eq_some_iff.1 h1).1
   simp at this
   omega
  rw [e] at h1
  rw [← hl, e] at h2
  simp at h1 h2
  subst h1 h2
  exact hz
theorem PL.at {j : Nat} {z : C3} (h : PL W A zs ps) (hz : zs[j]? = some z) : ∃ p, ps[j]? = some p ∧ RSn W A p z := by
 have hj := (List.getElem?_eq_some_iff.1 hz).1
 have hl := h.1
 exact ⟨ps[j]'(by omega), List.getElem?_eq_getElem (by omega), h.2 j z _ hz (List.getElem?_eq_getElem (by omega))⟩
end
theorem fm3_app (xs : List C3) (y : C3) : (xs ++ [y]).flatMap lc = xs.flatMap lc ++ lc y := by simp
/-! ### A form as a level -/
def part1 (i : Nat) (k : Int) : List SL := if k < 0 then [] else if k = 0 then [.var i] else [.succ k.toNat (.var i)]
def pts (c : Int) (ks : List Int) : Nat → List SL
 | 0 => if c ≠ 0 ∨ ks = [] then [.num c.toNat] else []
 | i + 1 => pts c ks i ++ part1 i (gt ks i)
def levF (c : Int) (ks : List Int) : SL := match pts c ks ks.length with
 | [] => .num 0
 | p :: ps => ps.foldl .mx p
theorem pts_le (c : Int) (ks : List Int) : ∀ i, (pts c ks i).length ≤ i + 1
 | 0 => by unfold pts; split <;> simp
 | i + 1 => by
  have := pts_le c ks i
  have h1 : (part1 i (gt ks i)).length ≤ 1 := by unfold part1; split; simp; split <;> simp
  rw [pts, List.length_append]
  omega
theorem pts_mono (c : Int) (ks : List Int) : ∀ i d, (pts c ks i).length ≤ (pts c ks (i + d)).length
 | i, 0 => Nat.le_refl _
 | i, d + 1 => by
  have := pts_mono c ks i d
  rw [← Nat.add_assoc, pts, List.length_append]
  omega
theorem pts_pos {c : Int} {ks : List Int} (hT : Tm ks) : 0 < (pts c ks ks.length).length := by
 by_cases h : c ≠ 0 ∨ ks = []
 ·
  have := pts_mono c ks 0 ks.length
  rw [Nat.zero_add] at this
  have h0 : (pts c ks 0).length = 1 := by rw [pts, if_pos h]; rfl
  omega
 ·
  have hp : 0 < ks.length := List.length_pos_iff.2 (fun e => h (.inr e))
  have hl := hT.last hp
  obtain ⟨n, hn⟩ : ∃ n, ks.length = n + 1 := ⟨ks.length - 1, by omega⟩
  rw [hn, show n + 1 - 1 = n by omega] at hl
  rw [hn, pts, List.length_append]
  have : (part1 n (gt ks n)).length = 1 := by
   unfold part1
   rw [if_neg (by omega)]
   split <;> rfl
  omega
end Go.Proofs.Ytbhhbfdoadecgaa
