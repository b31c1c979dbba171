/- LevelMaxes. -/
import Derived.Test.YtnnkggfhhkhnmaaLawB
namespace Go.Proofs.Ytnnkggfhhkhnmaa
open Go.RowKit Go.Shelf
set_option linter.unusedVariables false
set_option linter.unusedSimpArgs false

section
variable {P : Program} {ops : Array Oper} {K : Act → World → Prop} {S : World → Prop} {N fuel : Nat} {done : List Nat} {a : Act} {w : World}
theorem d_three (i j k : Nat) (hr : Region.ready .any ops (lst N done) = [i, j, k])
    (h1 : wpOp P ops (QN K) i (fun a' w' => S w' ∧ wpAnyH P .any ops (QN K) S fuel (lst N (i :: done)) a' w') a w)
    (h2 : wpOp P ops (QN K) j (fun a' w' => S w' ∧ wpAnyH P .any ops (QN K) S fuel (lst N (j :: done)) a' w') a w)
    (h3 : wpOp P ops (QN K) k (fun a' w' => S w' ∧ wpAnyH P .any ops (QN K) S fuel (lst N (k :: done)) a' w') a w) : wpAnyH P .any ops (QN K) S (fuel + 1) (lst N done) a w := by
  refine wpAnyH_all hr (by simp) (fun m hm => ?_)
  simp at hm
  rcases hm with rfl | rfl | rfl
  · exact h1
  · exact h2
  · exact h3
end
theorem em3 (A B C : Prop) : ¬ A ∨ (A ∧ ¬ B) ∨ (A ∧ B ∧ ¬ C) ∨ (A ∧ B ∧ C) := by
  by_cases h1 : A <;> by_cases h2 : B <;> by_cases h3 : C <;> simp [h1, h2, h3]
theorem bd_mx {s t : SL} (hs : s.size ≤ 3000 ∧ s.dep ≤ 3000) (ht : t.size ≤ 3000 ∧ t.dep ≤ 3000) : (SL.mx s t).size ≤ 10000 ∧ (SL.mx s t).dep ≤ 10000 := by
  simp only [SL.size, SL.dep]
  omega
theorem bd3 {s : SL} (h : s.good) : s.size ≤ 3000 ∧ s.dep ≤ 3000 := ⟨by have := h.1; omega, by have := h.2.1; omega⟩
theorem good_in {p q r : SL} (h : (SL.mx p (.mx q r)).good) : (SL.mx p q).good := by
  obtain ⟨h1, h2, h3⟩ := h
  simp only [SL.size, SL.dep, SL.nums] at h1 h2 h3
  refine ⟨?_, ?_, h3.1, h3.2.1⟩
  · simp only [SL.size]; omega
  · simp only [SL.dep]; omega
theorem good_turn {p q : SL} (h : (SL.mx p q).good) : (SL.mx q p).good := by
  obtain ⟨h1, h2, h3⟩ := h
  simp only [SL.size, SL.dep, SL.nums] at h1 h2 h3
  refine ⟨?_, ?_, h3.2, h3.1⟩
  · simp only [SL.size]; omega
  · simp only [SL.dep]; omega
theorem mx_three (p q r : SL) : eqF (.mx p (.mx q r)) (.mx (.mx r p) q) :=
  (mx_assoc p q r).trans ((mx_comm (.mx p q) r).trans (mx_assoc r p q))

set_option maxRecDepth 100000 in
set_option maxHeartbeats 1600000 in
theorem levelMaxes_walk (x y z : C3) (la lb lc' : Lv) (w0 : World) (hLa : RL w0 x la) (hLb : RL w0 y lb) (hLc : RL w0 z lc') : Calls Try.prog 11 #[lv x, lv y, lv z] w0 fun e w' => e = .returned (.bool true) ∧ Below w0.heap.size w0 w' := by
  have hB := Below.refl w0.heap.size w0
  have sB := hB.size
  refine calls_fs 71 [(0, lv x), (1, lv y), (2, lv z)] Try.func11 rfl rfl rfl rfl rfl fun a hF => ?_
  refine wp_rs fun K1 hK1 => ?_
  refine s_box (lc x) hF (by decide) rfl rfl fun w2 b3 a eb3 m3 B3 zb3 hF => ?_
  have sB3 := B3.size
  have hB := hB.trans (B3.mono hB.size)
  refine s_box (lc y) hF (by decide) rfl rfl fun w4 b4 a eb4 m4 B5 zb4 hF => ?_
  have sB5 := B5.size
  have hB := hB.trans (B5.mono hB.size)
  have m3 := m3.old B5
  refine s_box (lc z) hF (by decide) rfl rfl fun w6 b5 a eb5 m5 B7 zb5 hF => ?_
  have sB7 := B7.size
  have hB := hB.trans (B7.mono hB.size)
  have m3 := m3.old B7
  have m4 := m4.old B7
  refine s_val hF (x_assign rfl) (by decide) fun a hF => ?_
  refine s_end (hK1 _ _ ?_)
  refine wp_seq_k fun K2 hK2 => ?_
  rcases (show (decide (sndL la) = false) ∨ (decide (sndL la) = true ∧ decide (sndL lb) = false) ∨ (decide (sndL la) = true ∧ decide (sndL lb) = true ∧ decide (sndL lc') = false) ∨ (decide (sndL la) = true ∧ decide (sndL lb) = true ∧ decide (sndL lc') = true) by cases decide (sndL la) <;> cases decide (sndL lb) <;> cases decide (sndL lc') <;> simp) with hd1 | ⟨hd1, hd2⟩ | ⟨hd1, hd2, hd3⟩ | ⟨hd1, hd2, hd3⟩
  · skip
    refine wp_rs fun K4 hK4 => ?_
    refine s_val hF (x_ldW wide24 m3 rfl rfl) (by decide) fun a hF => ?_
    refine s_callB [_] hF (enters_of Try.func17 (by kernel_rfl) rfl) rfl (by decide) (rSound17 x la w6 (hLa.old hB)) fun w8 a B9 hF => ?_
    have sB9 := B9.size
    have hB := hB.trans (B9.mono hB.size)
    have m3 := m3.old B9
    have m4 := m4.old B9
    have m5 := m5.old B9
    rw [hd1] at hF
    refine s_val hF (x_not rfl) (by decide) fun a hF => ?_
    refine s_val hF (x_move rfl) (by decide) fun a hF => ?_
    refine s_grdn 12 hF rfl rfl (by decide) fun a hF => ?_
    refine s_grdn 12 hF rfl rfl (by decide) fun a hF => ?_
    refine s_grdn 12 hF rfl rfl (by decide) fun a hF => ?_
    refine s_val hF (x_pick (b := true) rfl rfl) (by decide) fun a hF => ?_
    refine s_val hF (x_move rfl) (by decide) fun a hF => ?_
    refine s_grdn 17 hF rfl rfl (by decide) fun a hF => ?_
    refine s_grdn 17 hF rfl rfl (by decide) fun a hF => ?_
    refine s_grdn 17 hF rfl rfl (by decide) fun a hF => ?_
    refine s_val hF (x_pick (b := true) rfl rfl) (by decide) fun a hF => ?_
    refine s_end (hK4 _ _ ?_)
    refine wp_if hF rfl ?_
    refine wp_rs fun K5 hK5 => ?_
    refine s_callB [] hF (enters_of Try.func15 (by kernel_rfl) rfl) rfl (by decide) (awake15 w8) fun w10 a B11 hF => ?_
    have sB11 := B11.size
    have hB := hB.trans (B11.mono hB.size)
    have m3 := m3.old B11
    have m4 := m4.old B11
    have m5 := m5.old B11
    refine s_val hF (x_assign rfl) (by decide) fun a hF => ?_
    refine s_end (hK5 _ _ ?_)
    refine wp_ret (then_ret (res_slot hF rfl rfl ⟨rfl, hB⟩))
  · skip
    refine wp_rs fun K6 hK6 => ?_
    refine s_val hF (x_ldW wide24 m3 rfl rfl) (by decide) fun a hF => ?_
    refine s_callB [_] hF (enters_of Try.func17 (by kernel_rfl) rfl) rfl (by decide) (rSound17 x la w6 (hLa.old hB)) fun w12 a B13 hF => ?_
    have sB13 := B13.size
    have hB := hB.trans (B13.mono hB.size)
    have m3 := m3.old B13
    have m4 := m4.old B13
    have m5 := m5.old B13
    rw [hd1] at hF
    refine s_val hF (x_not rfl) (by decide) fun a hF => ?_
    refine s_val hF (x_move rfl) (by decide) fun a hF => ?_
    refine s_grd 12 hF rfl rfl rfl ?_
    refine s_val hF (x_ldW wide24 m4 rfl rfl) (by decide) fun a hF => ?_
    refine s_grd 12 hF rfl rfl rfl ?_
    refine s_callB [_] hF (enters_of Try.func17 (by kernel_rfl) rfl) rfl (by decide) (rSound17 y lb w12 (hLb.old hB)) fun w14 a B15 hF => ?_
    have sB15 := B15.size
    have hB := hB.trans (B15.mono hB.size)
    have m3 := m3.old B15
    have m4 := m4.old B15
    have m5 := m5.old B15
    rw [hd2] at hF
    refine s_grd 12 hF rfl rfl rfl ?_
    refine s_val hF (x_not rfl) (by decide) fun a hF => ?_
    refine s_val hF (x_pick (b := false) rfl rfl) (by decide) fun a hF => ?_
    refine s_val hF (x_move rfl) (by decide) fun a hF => ?_
    refine s_grdn 17 hF rfl rfl (by decide) fun a hF => ?_
    refine s_grdn 17 hF rfl rfl (by decide) fun a hF => ?_
    refine s_grdn 17 hF rfl rfl (by decide) fun a hF => ?_
    refine s_val hF (x_pick (b := true) rfl rfl) (by decide) fun a hF => ?_
    refine s_end (hK6 _ _ ?_)
    refine wp_if hF rfl ?_
    refine wp_rs fun K7 hK7 => ?_
    refine s_callB [] hF (enters_of Try.func15 (by kernel_rfl) rfl) rfl (by decide) (awake15 w14) fun w16 a B17 hF => ?_
    have sB17 := B17.size
    have hB := hB.trans (B17.mono hB.size)
    have m3 := m3.old B17
    have m4 := m4.old B17
    have m5 := m5.old B17
    refine s_val hF (x_assign rfl) (by decide) fun a hF => ?_
    refine s_end (hK7 _ _ ?_)
    refine wp_ret (then_ret (res_slot hF rfl rfl ⟨rfl, hB⟩))
  · skip
    refine wp_rs fun K8 hK8 => ?_
    refine s_val hF (x_ldW wide24 m3 rfl rfl) (by decide) fun a hF => ?_
    refine s_callB [_] hF (enters_of Try.func17 (by kernel_rfl) rfl) rfl (by decide) (rSound17 x la w6 (hLa.old hB)) fun w18 a B19 hF => ?_
    have sB19 := B19.size
    have hB := hB.trans (B19.mono hB.size)
    have m3 := m3.old B19
    have m4 := m4.old B19
    have m5 := m5.old B19
    rw [hd1] at hF
    refine s_val hF (x_not rfl) (by decide) fun a hF => ?_
    refine s_val hF (x_move rfl) (by decide) fun a hF => ?_
    refine s_grd 12 hF rfl rfl rfl ?_
    refine s_val hF (x_ldW wide24 m4 rfl rfl) (by decide) fun a hF => ?_
    refine s_grd 12 hF rfl rfl rfl ?_
    refine s_callB [_] hF (enters_of Try.func17 (by kernel_rfl) rfl) rfl (by decide) (rSound17 y lb w18 (hLb.old hB)) fun w20 a B21 hF => ?_
    have sB21 := B21.size
    have hB := hB.trans (B21.mono hB.size)
    have m3 := m3.old B21
    have m4 := m4.old B21
    have m5 := m5.old B21
    rw [hd2] at hF
    refine s_grd 12 hF rfl rfl rfl ?_
    refine s_val hF (x_not rfl) (by decide) fun a hF => ?_
    refine s_val hF (x_pick (b := false) rfl rfl) (by decide) fun a hF => ?_
    refine s_val hF (x_move rfl) (by decide) fun a hF => ?_
    refine s_grd 17 hF rfl rfl rfl ?_
    refine s_val hF (x_ldW wide24 m5 rfl rfl) (by decide) fun a hF => ?_
    refine s_grd 17 hF rfl rfl rfl ?_
    refine s_callB [_] hF (enters_of Try.func17 (by kernel_rfl) rfl) rfl (by decide) (rSound17 z lc' w20 (hLc.old hB)) fun w22 a B23 hF => ?_
    have sB23 := B23.size
    have hB := hB.trans (B23.mono hB.size)
    have m3 := m3.old B23
    have m4 := m4.old B23
    have m5 := m5.old B23
    rw [hd3] at hF
    refine s_grd 17 hF rfl rfl rfl ?_
    refine s_val hF (x_not rfl) (by decide) fun a hF => ?_
    refine s_val hF (x_pick (b := false) rfl rfl) (by decide) fun a hF => ?_
    refine s_end (hK8 _ _ ?_)
    refine wp_if hF rfl ?_
    refine wp_rs fun K9 hK9 => ?_
    refine s_callB [] hF (enters_of Try.func15 (by kernel_rfl) rfl) rfl (by decide) (awake15 w22) fun w24 a B25 hF => ?_
    have sB25 := B25.size
    have hB := hB.trans (B25.mono hB.size)
    have m3 := m3.old B25
    have m4 := m4.old B25
    have m5 := m5.old B25
    refine s_val hF (x_assign rfl) (by decide) fun a hF => ?_
    refine s_end (hK9 _ _ ?_)
    refine wp_ret (then_ret (res_slot hF rfl rfl ⟨rfl, hB⟩))
  · have hsn1 : sndL la := of_decide_eq_true hd1
    obtain ⟨p, hp, gp⟩ := sound_sl hLa hsn1
    have hsn2 : sndL lb := of_decide_eq_true hd2
    obtain ⟨q, hq, gq⟩ := sound_sl hLb hsn2
    have hsn3 : sndL lc' := of_decide_eq_true hd3
    obtain ⟨r, hr, gr⟩ := sound_sl hLc hsn3
    have bp := good_bd gp
    have bq := good_bd gq
    have br := good_bd gr
    have bqr := bd_mx (bd3 gq) (bd3 gr)
    have brp := bd_mx (bd3 gr) (bd3 gp)
    refine wp_rs fun K10 hK10 => ?_
    refine s_val hF (x_ldW wide24 m3 rfl rfl) (by decide) fun a hF => ?_
    refine s_callB [_] hF (enters_of Try.func17 (by kernel_rfl) rfl) rfl (by decide) (rSound17 x la w6 (hLa.old hB)) fun w26 a B27 hF => ?_
    have sB27 := B27.size
    have hB := hB.trans (B27.mono hB.size)
    have m3 := m3.old B27
    have m4 := m4.old B27
    have m5 := m5.old B27
    rw [hd1] at hF
    refine s_val hF (x_not rfl) (by decide) fun a hF => ?_
    refine s_val hF (x_move rfl) (by decide) fun a hF => ?_
    refine s_grd 12 hF rfl rfl rfl ?_
    refine s_val hF (x_ldW wide24 m4 rfl rfl) (by decide) fun a hF => ?_
    refine s_grd 12 hF rfl rfl rfl ?_
    refine s_callB [_] hF (enters_of Try.func17 (by kernel_rfl) rfl) rfl (by decide) (rSound17 y lb w26 (hLb.old hB)) fun w28 a B29 hF => ?_
    have sB29 := B29.size
    have hB := hB.trans (B29.mono hB.size)
    have m3 := m3.old B29
    have m4 := m4.old B29
    have m5 := m5.old B29
    rw [hd2] at hF
    refine s_grd 12 hF rfl rfl rfl ?_
    refine s_val hF (x_not rfl) (by decide) fun a hF => ?_
    refine s_val hF (x_pick (b := false) rfl rfl) (by decide) fun a hF => ?_
    refine s_val hF (x_move rfl) (by decide) fun a hF => ?_
    refine s_grd 17 hF rfl rfl rfl ?_
    refine s_val hF (x_ldW wide24 m5 rfl rfl) (by decide) fun a hF => ?_
    refine s_grd 17 hF rfl rfl rfl ?_
    refine s_callB [_] hF (enters_of Try.func17 (by kernel_rfl) rfl) rfl (by decide) (rSound17 z lc' w28 (hLc.old hB)) fun w30 a B31 hF => ?_
    have sB31 := B31.size
    have hB := hB.trans (B31.mono hB.size)
    have m3 := m3.old B31
    have m4 := m4.old B31
    have m5 := m5.old B31
    rw [hd3] at hF
    refine s_grd 17 hF rfl rfl rfl ?_
    refine s_val hF (x_not rfl) (by decide) fun a hF => ?_
    refine s_val hF (x_pick (b := false) rfl rfl) (by decide) fun a hF => ?_
    refine s_end (hK10 _ _ ?_)
    refine wp_if hF rfl ?_
    refine wp_skip (hK2 _ _ ?_)
    refine dk2_seq (w30.heap.size) (w30.heap.size) (ops := regOps Try.f11 3) (N := 14) (by kernel_rfl) wide_orders (by kernel_rfl) fun w32 hw32 B33 hS K11 hK11 => ?_
    have zw32 : w32.heap.size = w30.heap.size := by rw [hw32]
    have sB33 := B33.size
    have hB := hB.trans (B33.mono hB.size)
    have m3 := m3.old B33
    have m4 := m4.old B33
    have m5 := m5.old B33
    have m3_d := m3
    have m4_d := m4
    have m5_d := m5
    have hB_d := hB
    have key11 : ∀ (a : Act) (w : World) (b7 b8 : Nat) (u v : C3), Below w0.heap.size w0 w → Blk w b3 24 (lc x) → Blk w b4 24 (lc y) → Blk w b5 24 (lc z) → Blk w b7 24 (lc u) → Blk w b8 24 (lc v) → RS w (.mx p (.mx q r)) u → RS w (.mx (.mx r p) q) v → Fs 71 a [(3, .pointer (some ⟨b3, 0, none⟩)), (4, .pointer (some ⟨b4, 0, none⟩)), (5, .pointer (some ⟨b5, 0, none⟩)), (7, .pointer (some ⟨b7, 0, none⟩)), (8, .pointer (some ⟨b8, 0, none⟩))] → K11 a w := by
      intro a w b7 b8 u v hB m3 m4 m5 m7 m8 hu hv hF
      have sB := hB.size
      have hB7 := Below.refl w.heap.size w
      have sB7 := hB7.size
      have hm3 := m3.lt
      have hm4 := m4.lt
      have hm5 := m5.lt
      have hm7 := m7.lt
      have hm8 := m8.lt
      refine hK11 _ _ ?_
      refine wp_seq_k fun K12 hK12 => ?_
      rcases em3 (SL.mx p (.mx q r)).good (SL.mx (.mx r p) q).good (SL.mx p p).good with n1 | ⟨g1, n2⟩ | ⟨g1, g2, n3⟩ | ⟨g1, g2, g3⟩
      · skip
        refine wp_rs fun K14 hK14 => ?_
        refine s_val hF (x_ldW wide24 m7 rfl rfl) (by decide) fun a hF => ?_
        refine s_callR (R := fun v w' => ∃ b, v = .bool b ∧ (b = true ↔ (SL.mx p (.mx q r)).good)) [_] hF (enters_of Try.func17 (by kernel_rfl) rfl) rfl (by decide) (sndS (RS.below hB7 hu)) ?_
        rintro _ w34 a ⟨bs34, rfl, hbs34⟩ B35 hF
        have sB35 := B35.size
        have hB := hB.trans (B35.mono hB.size)
        have hB7 := hB7.trans (B35.mono hB7.size)
        have m3 := m3.old B35
        have m4 := m4.old B35
        have m5 := m5.old B35
        have m7 := m7.old B35
        have m8 := m8.old B35
        obtain rfl : bs34 = false := Bool.eq_false_iff.2 fun h => n1 (hbs34.1 h)
        refine s_val hF (x_not rfl) (by decide) fun a hF => ?_
        refine s_val hF (x_move rfl) (by decide) fun a hF => ?_
        refine s_grdn 36 hF rfl rfl (by decide) fun a hF => ?_
        refine s_grdn 36 hF rfl rfl (by decide) fun a hF => ?_
        refine s_grdn 36 hF rfl rfl (by decide) fun a hF => ?_
        refine s_val hF (x_pick (b := true) rfl rfl) (by decide) fun a hF => ?_
        refine s_val hF (x_move rfl) (by decide) fun a hF => ?_
        refine s_grdn 41 hF rfl rfl (by decide) fun a hF => ?_
        refine s_grdn 41 hF rfl rfl (by decide) fun a hF => ?_
        refine s_grdn 41 hF rfl rfl (by decide) fun a hF => ?_
        refine s_grdn 41 hF rfl rfl (by decide) fun a hF => ?_
        refine s_grdn 41 hF rfl rfl (by decide) fun a hF => ?_
        refine s_val hF (x_pick (b := true) rfl rfl) (by decide) fun a hF => ?_
        refine s_end (hK14 _ _ ?_)
        refine wp_if hF rfl ?_
        refine wp_rs fun K15 hK15 => ?_
        refine s_callB [] hF (enters_of Try.func15 (by kernel_rfl) rfl) rfl (by decide) (awake15 w34) fun w36 a B37 hF => ?_
        have sB37 := B37.size
        have hB := hB.trans (B37.mono hB.size)
        have hB7 := hB7.trans (B37.mono hB7.size)
        have m3 := m3.old B37
        have m4 := m4.old B37
        have m5 := m5.old B37
        have m7 := m7.old B37
        have m8 := m8.old B37
        refine s_val hF (x_assign rfl) (by decide) fun a hF => ?_
        refine s_end (hK15 _ _ ?_)
        refine wp_ret (then_ret (res_slot hF rfl rfl ⟨rfl, hB⟩))
      · skip
        refine wp_rs fun K16 hK16 => ?_
        refine s_val hF (x_ldW wide24 m7 rfl rfl) (by decide) fun a hF => ?_
        refine s_callR (R := fun v w' => ∃ b, v = .bool b ∧ (b = true ↔ (SL.mx p (.mx q r)).good)) [_] hF (enters_of Try.func17 (by kernel_rfl) rfl) rfl (by decide) (sndS (RS.below hB7 hu)) ?_
        rintro _ w38 a ⟨bs34, rfl, hbs34⟩ B39 hF
        have sB39 := B39.size
        have hB := hB.trans (B39.mono hB.size)
        have hB7 := hB7.trans (B39.mono hB7.size)
        have m3 := m3.old B39
        have m4 := m4.old B39
        have m5 := m5.old B39
        have m7 := m7.old B39
        have m8 := m8.old B39
        obtain rfl : bs34 = true := hbs34.2 g1
        refine s_val hF (x_not rfl) (by decide) fun a hF => ?_
        refine s_val hF (x_move rfl) (by decide) fun a hF => ?_
        refine s_grd 36 hF rfl rfl rfl ?_
        refine s_val hF (x_ldW wide24 m8 rfl rfl) (by decide) fun a hF => ?_
        refine s_grd 36 hF rfl rfl rfl ?_
        refine s_callR (R := fun v w' => ∃ b, v = .bool b ∧ (b = true ↔ (SL.mx (.mx r p) q).good)) [_] hF (enters_of Try.func17 (by kernel_rfl) rfl) rfl (by decide) (sndS (RS.below hB7 hv)) ?_
        rintro _ w40 a ⟨bs38, rfl, hbs38⟩ B41 hF
        have sB41 := B41.size
        have hB := hB.trans (B41.mono hB.size)
        have hB7 := hB7.trans (B41.mono hB7.size)
        have m3 := m3.old B41
        have m4 := m4.old B41
        have m5 := m5.old B41
        have m7 := m7.old B41
        have m8 := m8.old B41
        obtain rfl : bs38 = false := Bool.eq_false_iff.2 fun h => n2 (hbs38.1 h)
        refine s_grd 36 hF rfl rfl rfl ?_
        refine s_val hF (x_not rfl) (by decide) fun a hF => ?_
        refine s_val hF (x_pick (b := false) rfl rfl) (by decide) fun a hF => ?_
        refine s_val hF (x_move rfl) (by decide) fun a hF => ?_
        refine s_grdn 41 hF rfl rfl (by decide) fun a hF => ?_
        refine s_grdn 41 hF rfl rfl (by decide) fun a hF => ?_
        refine s_grdn 41 hF rfl rfl (by decide) fun a hF => ?_
        refine s_grdn 41 hF rfl rfl (by decide) fun a hF => ?_
        refine s_grdn 41 hF rfl rfl (by decide) fun a hF => ?_
        refine s_val hF (x_pick (b := true) rfl rfl) (by decide) fun a hF => ?_
        refine s_end (hK16 _ _ ?_)
        refine wp_if hF rfl ?_
        refine wp_rs fun K17 hK17 => ?_
        refine s_callB [] hF (enters_of Try.func15 (by kernel_rfl) rfl) rfl (by decide) (awake15 w40) fun w42 a B43 hF => ?_
        have sB43 := B43.size
        have hB := hB.trans (B43.mono hB.size)
        have hB7 := hB7.trans (B43.mono hB7.size)
        have m3 := m3.old B43
        have m4 := m4.old B43
        have m5 := m5.old B43
        have m7 := m7.old B43
        have m8 := m8.old B43
        refine s_val hF (x_assign rfl) (by decide) fun a hF => ?_
        refine s_end (hK17 _ _ ?_)
        refine wp_ret (then_ret (res_slot hF rfl rfl ⟨rfl, hB⟩))
      · skip
        refine wp_rs fun K18 hK18 => ?_
        refine s_val hF (x_ldW wide24 m7 rfl rfl) (by decide) fun a hF => ?_
        refine s_callR (R := fun v w' => ∃ b, v = .bool b ∧ (b = true ↔ (SL.mx p (.mx q r)).good)) [_] hF (enters_of Try.func17 (by kernel_rfl) rfl) rfl (by decide) (sndS (RS.below hB7 hu)) ?_
        rintro _ w44 a ⟨bs34, rfl, hbs34⟩ B45 hF
        have sB45 := B45.size
        have hB := hB.trans (B45.mono hB.size)
        have hB7 := hB7.trans (B45.mono hB7.size)
        have m3 := m3.old B45
        have m4 := m4.old B45
        have m5 := m5.old B45
        have m7 := m7.old B45
        have m8 := m8.old B45
        obtain rfl : bs34 = true := hbs34.2 g1
        refine s_val hF (x_not rfl) (by decide) fun a hF => ?_
        refine s_val hF (x_move rfl) (by decide) fun a hF => ?_
        refine s_grd 36 hF rfl rfl rfl ?_
        refine s_val hF (x_ldW wide24 m8 rfl rfl) (by decide) fun a hF => ?_
        refine s_grd 36 hF rfl rfl rfl ?_
        refine s_callR (R := fun v w' => ∃ b, v = .bool b ∧ (b = true ↔ (SL.mx (.mx r p) q).good)) [_] hF (enters_of Try.func17 (by kernel_rfl) rfl) rfl (by decide) (sndS (RS.below hB7 hv)) ?_
        rintro _ w46 a ⟨bs38, rfl, hbs38⟩ B47 hF
        have sB47 := B47.size
        have hB := hB.trans (B47.mono hB.size)
        have hB7 := hB7.trans (B47.mono hB7.size)
        have m3 := m3.old B47
        have m4 := m4.old B47
        have m5 := m5.old B47
        have m7 := m7.old B47
        have m8 := m8.old B47
        obtain rfl : bs38 = true := hbs38.2 g2
        refine s_grd 36 hF rfl rfl rfl ?_
        refine s_val hF (x_not rfl) (by decide) fun a hF => ?_
        refine s_val hF (x_pick (b := false) rfl rfl) (by decide) fun a hF => ?_
        refine s_val hF (x_move rfl) (by decide) fun a hF => ?_
        refine s_grd 41 hF rfl rfl rfl ?_
        refine s_val hF (x_ldW wide24 m3 rfl rfl) (by decide) fun a hF => ?_
        refine s_grd 41 hF rfl rfl rfl ?_
        refine s_val hF (x_ldW wide24 m3 rfl rfl) (by decide) fun a hF => ?_
        refine s_grd 41 hF rfl rfl rfl ?_
        refine s_callR (R := fun u w' => ∃ z, u = lv z ∧ RSn w' (fun k => w46.heap.size ≤ k) (.mx (p) (p)) z) [_, _] hF (enters_of Try.func32 (by kernel_rfl) rfl) rfl (by decide) (Max32 (p) (p) x x w46 (RS.below hB hp) (RS.below hB hp) bp.1 bp.2 bp.1 bp.2) ?_
        rintro _ w48 a ⟨t44, rfl, h44n⟩ B49 hF
        have sB49 := B49.size
        have hB := hB.trans (B49.mono hB.size)
        have hB7 := hB7.trans (B49.mono hB7.size)
        have m3 := m3.old B49
        have m4 := m4.old B49
        have m5 := m5.old B49
        have m7 := m7.old B49
        have m8 := m8.old B49
        have h44 := h44n.valid
        have h144 := h44n.rs.one1
        refine s_grd 41 hF rfl rfl rfl ?_
        refine s_callR (R := fun v w' => ∃ b, v = .bool b ∧ (b = true ↔ (SL.mx p p).good)) [_] hF (enters_of Try.func17 (by kernel_rfl) rfl) rfl (by decide) (sndS h44.rs) ?_
        rintro _ w50 a ⟨bs45, rfl, hbs45⟩ B51 hF
        have sB51 := B51.size
        have hB := hB.trans (B51.mono hB.size)
        have hB7 := hB7.trans (B51.mono hB7.size)
        have m3 := m3.old B51
        have m4 := m4.old B51
        have m5 := m5.old B51
        have m7 := m7.old B51
        have m8 := m8.old B51
        have h44 := h44.below B51
        obtain rfl : bs45 = false := Bool.eq_false_iff.2 fun h => n3 (hbs45.1 h)
        refine s_grd 41 hF rfl rfl rfl ?_
        refine s_val hF (x_not rfl) (by decide) fun a hF => ?_
        refine s_val hF (x_pick (b := false) rfl rfl) (by decide) fun a hF => ?_
        refine s_end (hK18 _ _ ?_)
        refine wp_if hF rfl ?_
        refine wp_rs fun K19 hK19 => ?_
        refine s_callB [] hF (enters_of Try.func15 (by kernel_rfl) rfl) rfl (by decide) (awake15 w50) fun w52 a B53 hF => ?_
        have sB53 := B53.size
        have hB := hB.trans (B53.mono hB.size)
        have hB7 := hB7.trans (B53.mono hB7.size)
        have m3 := m3.old B53
        have m4 := m4.old B53
        have m5 := m5.old B53
        have m7 := m7.old B53
        have m8 := m8.old B53
        have h44 := h44.below B53
        refine s_val hF (x_assign rfl) (by decide) fun a hF => ?_
        refine s_end (hK19 _ _ ?_)
        refine wp_ret (then_ret (res_slot hF rfl rfl ⟨rfl, hB⟩))
      · skip
        refine wp_rs fun K20 hK20 => ?_
        refine s_val hF (x_ldW wide24 m7 rfl rfl) (by decide) fun a hF => ?_
        refine s_callR (R := fun v w' => ∃ b, v = .bool b ∧ (b = true ↔ (SL.mx p (.mx q r)).good)) [_] hF (enters_of Try.func17 (by kernel_rfl) rfl) rfl (by decide) (sndS (RS.below hB7 hu)) ?_
        rintro _ w54 a ⟨bs34, rfl, hbs34⟩ B55 hF
        have sB55 := B55.size
        have hB := hB.trans (B55.mono hB.size)
        have hB7 := hB7.trans (B55.mono hB7.size)
        have m3 := m3.old B55
        have m4 := m4.old B55
        have m5 := m5.old B55
        have m7 := m7.old B55
        have m8 := m8.old B55
        obtain rfl : bs34 = true := hbs34.2 g1
        refine s_val hF (x_not rfl) (by decide) fun a hF => ?_
        refine s_val hF (x_move rfl) (by decide) fun a hF => ?_
        refine s_grd 36 hF rfl rfl rfl ?_
        refine s_val hF (x_ldW wide24 m8 rfl rfl) (by decide) fun a hF => ?_
        refine s_grd 36 hF rfl rfl rfl ?_
        refine s_callR (R := fun v w' => ∃ b, v = .bool b ∧ (b = true ↔ (SL.mx (.mx r p) q).good)) [_] hF (enters_of Try.func17 (by kernel_rfl) rfl) rfl (by decide) (sndS (RS.below hB7 hv)) ?_
        rintro _ w56 a ⟨bs38, rfl, hbs38⟩ B57 hF
        have sB57 := B57.size
        have hB := hB.trans (B57.mono hB.size)
        have hB7 := hB7.trans (B57.mono hB7.size)
        have m3 := m3.old B57
        have m4 := m4.old B57
        have m5 := m5.old B57
        have m7 := m7.old B57
        have m8 := m8.old B57
        obtain rfl : bs38 = true := hbs38.2 g2
        refine s_grd 36 hF rfl rfl rfl ?_
        refine s_val hF (x_not rfl) (by decide) fun a hF => ?_
        refine s_val hF (x_pick (b := false) rfl rfl) (by decide) fun a hF => ?_
        refine s_val hF (x_move rfl) (by decide) fun a hF => ?_
        refine s_grd 41 hF rfl rfl rfl ?_
        refine s_val hF (x_ldW wide24 m3 rfl rfl) (by decide) fun a hF => ?_
        refine s_grd 41 hF rfl rfl rfl ?_
        refine s_val hF (x_ldW wide24 m3 rfl rfl) (by decide) fun a hF => ?_
        refine s_grd 41 hF rfl rfl rfl ?_
        refine s_callR (R := fun u w' => ∃ z, u = lv z ∧ RSn w' (fun k => w56.heap.size ≤ k) (.mx (p) (p)) z) [_, _] hF (enters_of Try.func32 (by kernel_rfl) rfl) rfl (by decide) (Max32 (p) (p) x x w56 (RS.below hB hp) (RS.below hB hp) bp.1 bp.2 bp.1 bp.2) ?_
        rintro _ w58 a ⟨t44, rfl, h44n⟩ B59 hF
        have sB59 := B59.size
        have hB := hB.trans (B59.mono hB.size)
        have hB7 := hB7.trans (B59.mono hB7.size)
        have m3 := m3.old B59
        have m4 := m4.old B59
        have m5 := m5.old B59
        have m7 := m7.old B59
        have m8 := m8.old B59
        have h44 := h44n.valid
        have h144 := h44n.rs.one1
        refine s_grd 41 hF rfl rfl rfl ?_
        refine s_callR (R := fun v w' => ∃ b, v = .bool b ∧ (b = true ↔ (SL.mx p p).good)) [_] hF (enters_of Try.func17 (by kernel_rfl) rfl) rfl (by decide) (sndS h44.rs) ?_
        rintro _ w60 a ⟨bs45, rfl, hbs45⟩ B61 hF
        have sB61 := B61.size
        have hB := hB.trans (B61.mono hB.size)
        have hB7 := hB7.trans (B61.mono hB7.size)
        have m3 := m3.old B61
        have m4 := m4.old B61
        have m5 := m5.old B61
        have m7 := m7.old B61
        have m8 := m8.old B61
        have h44 := h44.below B61
        obtain rfl : bs45 = true := hbs45.2 g3
        refine s_grd 41 hF rfl rfl rfl ?_
        refine s_val hF (x_not rfl) (by decide) fun a hF => ?_
        refine s_val hF (x_pick (b := false) rfl rfl) (by decide) fun a hF => ?_
        refine s_end (hK20 _ _ ?_)
        refine wp_if hF rfl ?_
        refine wp_skip (hK12 _ _ ?_)
        have gpq := good_in g1
        have gqp := good_turn gpq
        have d1 : decide (eqF (.mx p q) (.mx q p)) = true := decide_eq_true (mx_comm p q)
        have d2 : decide (eqF (.mx p p) p) = true := decide_eq_true (mx_idem p)
        have d3 : decide (eqF (.mx p (.mx q r)) (.mx (.mx r p) q)) = true := decide_eq_true (mx_three p q r)
        refine dk2_seq (w60.heap.size) (w60.heap.size) (ops := regOps Try.f11 6) (N := 23) (by kernel_rfl) wide_orders (by kernel_rfl) fun w62 hw62 B63 hS K21 hK21 => ?_
        have zw62 : w62.heap.size = w60.heap.size := by rw [hw62]
        have sB63 := B63.size
        have hB := hB.trans (B63.mono hB.size)
        have hB7 := hB7.trans (B63.mono hB7.size)
        have m3 := m3.old B63
        have m4 := m4.old B63
        have m5 := m5.old B63
        have m7 := m7.old B63
        have m8 := m8.old B63
        have h44 := h44.below B63
        have m3_d := m3
        have m4_d := m4
        have m5_d := m5
        have m7_d := m7
        have m8_d := m8
        have h44_d := h44
        have hB_d := hB
        have hB7_d := hB7
        refine d_val 0 49 (op := (Go.Op.load 24 (Go.Operand.tmp 3))) hF hS (by kernel_rfl) (fun W hW => x_ldW wide24 (m3_d.k2 hW (by omega)) rfl rfl) (by kernel_rfl) (by decide) fun a hF => ?_
        refine d_val 1 50 (op := (Go.Op.load 24 (Go.Operand.tmp 4))) hF hS (by kernel_rfl) (fun W hW => x_ldW wide24 (m4_d.k2 hW (by omega)) rfl rfl) (by kernel_rfl) (by decide) fun a hF => ?_
        refine d_val 3 52 (op := (Go.Op.load 24 (Go.Operand.tmp 4))) hF hS (by kernel_rfl) (fun W hW => x_ldW wide24 (m4_d.k2 hW (by omega)) rfl rfl) (by kernel_rfl) (by decide) fun a hF => ?_
        refine d_val 4 53 (op := (Go.Op.load 24 (Go.Operand.tmp 3))) hF hS (by kernel_rfl) (fun W hW => x_ldW wide24 (m3_d.k2 hW (by omega)) rfl rfl) (by kernel_rfl) (by decide) fun a hF => ?_
        refine d_one 2 (some 51) (Go.Op.call (Go.Call.mk (Go.Callee.value (Go.Operand.func 32)) #[(Go.Operand.tmp 49), (Go.Operand.tmp 50)] #[24, 24])) (by kernel_rfl) (by kernel_rfl) fun ty pos af => ?_
        refine s_callR (R := fun u w' => ∃ z, u = lv z ∧ RSn w' (fun k => w62.heap.size ≤ k) (.mx (p) (q)) z) [_, _] hF (enters_of Try.func32 (by kernel_rfl) rfl) rfl (by decide) (Max32 (p) (q) x y w62 (RS.below hB hp) (RS.below hB hq) bp.1 bp.2 bq.1 bq.2) ?_
        rintro _ w64 a ⟨t51, rfl, h51n⟩ B65 hF
        have sB65 := B65.size
        have hB := hB.trans (B65.mono hB.size)
        have hB7 := hB7.trans (B65.mono hB7.size)
        have m3 := m3.old B65
        have m4 := m4.old B65
        have m5 := m5.old B65
        have m7 := m7.old B65
        have m8 := m8.old B65
        have h44 := h44.below B65
        have hS := hS.below B65
        have h51 := h51n.valid
        have h151 := h51n.rs.one1
        refine s_end ⟨hS, ?_⟩
        refine d_one 5 (some 54) (Go.Op.call (Go.Call.mk (Go.Callee.value (Go.Operand.func 32)) #[(Go.Operand.tmp 52), (Go.Operand.tmp 53)] #[24, 24])) (by kernel_rfl) (by kernel_rfl) fun ty pos af => ?_
        refine s_callR (R := fun u w' => ∃ z, u = lv z ∧ RSn w' (fun k => w64.heap.size ≤ k) (.mx (q) (p)) z) [_, _] hF (enters_of Try.func32 (by kernel_rfl) rfl) rfl (by decide) (Max32 (q) (p) y x w64 (RS.below hB hq) (RS.below hB hp) bq.1 bq.2 bp.1 bp.2) ?_
        rintro _ w66 a ⟨t54, rfl, h54n⟩ B67 hF
        have sB67 := B67.size
        have hB := hB.trans (B67.mono hB.size)
        have hB7 := hB7.trans (B67.mono hB7.size)
        have m3 := m3.old B67
        have m4 := m4.old B67
        have m5 := m5.old B67
        have m7 := m7.old B67
        have m8 := m8.old B67
        have h44 := h44.below B67
        have h51 := h51.below B67
        have hS := hS.below B67
        have h54 := h54n.valid
        have h154 := h54n.rs.one1
        refine s_end ⟨hS, ?_⟩
        refine d_one 6 (some 55) (Go.Op.call (Go.Call.mk (Go.Callee.value (Go.Operand.func 23)) #[(Go.Operand.tmp 51), (Go.Operand.tmp 54)] #[24, 24])) (by kernel_rfl) (by kernel_rfl) fun ty pos af => ?_
        refine s_callB [_, _] hF (enters_of Try.func23 (by kernel_rfl) rfl) rfl (by decide) (eqS h51.rs h54.rs gpq gqp) fun w68 a B69 hF => ?_
        have sB69 := B69.size
        have hB := hB.trans (B69.mono hB.size)
        have hB7 := hB7.trans (B69.mono hB7.size)
        have m3 := m3.old B69
        have m4 := m4.old B69
        have m5 := m5.old B69
        have m7 := m7.old B69
        have m8 := m8.old B69
        have h44 := h44.below B69
        have h51 := h51.below B69
        have h54 := h54.below B69
        have hS := hS.below B69
        rw [d1] at hF
        refine s_end ⟨hS, ?_⟩
        refine d_val 7 56 (op := (Go.Op.move (Go.Operand.tmp 55))) hF hS (by kernel_rfl) (fun W hW => x_move rfl) (by kernel_rfl) (by decide) fun a hF => ?_
        refine d_valg 8 57 56 (j := 7) (want := true) (op := (Go.Op.load 24 (Go.Operand.tmp 3))) hF hS (by kernel_rfl) (by kernel_rfl) rfl (fun W hW => x_ldW wide24 (m3_d.k2 hW (by omega)) rfl rfl) (by kernel_rfl) (by decide) fun a hF => ?_
        refine d_valg 9 58 56 (j := 7) (want := true) (op := (Go.Op.load 24 (Go.Operand.tmp 3))) hF hS (by kernel_rfl) (by kernel_rfl) rfl (fun W hW => x_ldW wide24 (m3_d.k2 hW (by omega)) rfl rfl) (by kernel_rfl) (by decide) fun a hF => ?_
        refine d_valg 11 60 56 (j := 7) (want := true) (op := (Go.Op.load 24 (Go.Operand.tmp 3))) hF hS (by kernel_rfl) (by kernel_rfl) rfl (fun W hW => x_ldW wide24 (m3_d.k2 hW (by omega)) rfl rfl) (by kernel_rfl) (by decide) fun a hF => ?_
        refine d_oneg 10 56 (some 59) (Go.Op.call (Go.Call.mk (Go.Callee.value (Go.Operand.func 32)) #[(Go.Operand.tmp 57), (Go.Operand.tmp 58)] #[24, 24])) (j := 7) (want := true) hF (by kernel_rfl) (by kernel_rfl) (by kernel_rfl) rfl fun ty pos af => ?_
        refine s_callR (R := fun u w' => ∃ z, u = lv z ∧ RSn w' (fun k => w68.heap.size ≤ k) (.mx (p) (p)) z) [_, _] hF (enters_of Try.func32 (by kernel_rfl) rfl) rfl (by decide) (Max32 (p) (p) x x w68 (RS.below hB hp) (RS.below hB hp) bp.1 bp.2 bp.1 bp.2) ?_
        rintro _ w70 a ⟨t59, rfl, h59n⟩ B71 hF
        have sB71 := B71.size
        have hB := hB.trans (B71.mono hB.size)
        have hB7 := hB7.trans (B71.mono hB7.size)
        have m3 := m3.old B71
        have m4 := m4.old B71
        have m5 := m5.old B71
        have m7 := m7.old B71
        have m8 := m8.old B71
        have h44 := h44.below B71
        have h51 := h51.below B71
        have h54 := h54.below B71
        have hS := hS.below B71
        have h59 := h59n.valid
        have h159 := h59n.rs.one1
        refine s_end ⟨hS, ?_⟩
        refine d_oneg 12 56 (some 61) (Go.Op.call (Go.Call.mk (Go.Callee.value (Go.Operand.func 23)) #[(Go.Operand.tmp 59), (Go.Operand.tmp 60)] #[24, 24])) (j := 7) (want := true) hF (by kernel_rfl) (by kernel_rfl) (by kernel_rfl) rfl fun ty pos af => ?_
        refine s_callB [_, _] hF (enters_of Try.func23 (by kernel_rfl) rfl) rfl (by decide) (eqS h59.rs (RS.below hB hp) g3 gp) fun w72 a B73 hF => ?_
        have sB73 := B73.size
        have hB := hB.trans (B73.mono hB.size)
        have hB7 := hB7.trans (B73.mono hB7.size)
        have m3 := m3.old B73
        have m4 := m4.old B73
        have m5 := m5.old B73
        have m7 := m7.old B73
        have m8 := m8.old B73
        have h44 := h44.below B73
        have h51 := h51.below B73
        have h54 := h54.below B73
        have h59 := h59.below B73
        have hS := hS.below B73
        rw [d2] at hF
        refine s_end ⟨hS, ?_⟩
        refine d_val 13 62 (op := (Go.Op.pick (Go.Operand.tmp 56) (Go.Operand.tmp 61) (Go.Operand.const (Go.Value.bool false)))) hF hS (by kernel_rfl) (fun W hW => x_pick (b := true) rfl rfl) (by kernel_rfl) (by decide) fun a hF => ?_
        refine d_val 14 63 (op := (Go.Op.move (Go.Operand.tmp 62))) hF hS (by kernel_rfl) (fun W hW => x_move rfl) (by kernel_rfl) (by decide) fun a hF => ?_
        refine d_valg 15 64 63 (j := 14) (want := true) (op := (Go.Op.load 24 (Go.Operand.tmp 7))) hF hS (by kernel_rfl) (by kernel_rfl) rfl (fun W hW => x_ldW wide24 (m7_d.k2 hW (by omega)) rfl rfl) (by kernel_rfl) (by decide) fun a hF => ?_
        refine d_valg 16 65 63 (j := 14) (want := true) (op := (Go.Op.load 24 (Go.Operand.tmp 8))) hF hS (by kernel_rfl) (by kernel_rfl) rfl (fun W hW => x_ldW wide24 (m8_d.k2 hW (by omega)) rfl rfl) (by kernel_rfl) (by decide) fun a hF => ?_
        refine d_oneg 17 63 (some 66) (Go.Op.call (Go.Call.mk (Go.Callee.value (Go.Operand.func 23)) #[(Go.Operand.tmp 64), (Go.Operand.tmp 65)] #[24, 24])) (j := 14) (want := true) hF (by kernel_rfl) (by kernel_rfl) (by kernel_rfl) rfl fun ty pos af => ?_
        refine s_callB [_, _] hF (enters_of Try.func23 (by kernel_rfl) rfl) rfl (by decide) (eqS (RS.below hB7 hu) (RS.below hB7 hv) g1 g2) fun w74 a B75 hF => ?_
        have sB75 := B75.size
        have hB := hB.trans (B75.mono hB.size)
        have hB7 := hB7.trans (B75.mono hB7.size)
        have m3 := m3.old B75
        have m4 := m4.old B75
        have m5 := m5.old B75
        have m7 := m7.old B75
        have m8 := m8.old B75
        have h44 := h44.below B75
        have h51 := h51.below B75
        have h54 := h54.below B75
        have h59 := h59.below B75
        have hS := hS.below B75
        rw [d3] at hF
        refine s_end ⟨hS, ?_⟩
        refine d_val 18 67 (op := (Go.Op.pick (Go.Operand.tmp 63) (Go.Operand.tmp 66) (Go.Operand.const (Go.Value.bool false)))) hF hS (by kernel_rfl) (fun W hW => x_pick (b := true) rfl rfl) (by kernel_rfl) (by decide) fun a hF => ?_
        refine d_val 19 68 (op := (Go.Op.move (Go.Operand.tmp 67))) hF hS (by kernel_rfl) (fun W hW => x_move rfl) (by kernel_rfl) (by decide) fun a hF => ?_
        refine d_oneg 20 68 (some 69) (Go.Op.call (Go.Call.mk (Go.Callee.value (Go.Operand.func 15)) #[] #[])) (j := 19) (want := true) hF (by kernel_rfl) (by kernel_rfl) (by kernel_rfl) rfl fun ty pos af => ?_
        refine s_callB [] hF (enters_of Try.func15 (by kernel_rfl) rfl) rfl (by decide) (awake15 w74) fun w76 a B77 hF => ?_
        have sB77 := B77.size
        have hB := hB.trans (B77.mono hB.size)
        have hB7 := hB7.trans (B77.mono hB7.size)
        have m3 := m3.old B77
        have m4 := m4.old B77
        have m5 := m5.old B77
        have m7 := m7.old B77
        have m8 := m8.old B77
        have h44 := h44.below B77
        have h51 := h51.below B77
        have h54 := h54.below B77
        have h59 := h59.below B77
        have hS := hS.below B77
        refine s_end ⟨hS, ?_⟩
        refine d_val 21 70 (op := (Go.Op.pick (Go.Operand.tmp 68) (Go.Operand.tmp 69) (Go.Operand.const (Go.Value.bool false)))) hF hS (by kernel_rfl) (fun W hW => x_pick (b := true) rfl rfl) (by kernel_rfl) (by decide) fun a hF => ?_
        refine d_val 22 6 (op := (Go.Op.assign (Go.Operand.tmp 70))) hF hS (by kernel_rfl) (fun W hW => x_assign rfl) (by kernel_rfl) (by decide) fun a hF => ?_
        refine d_end (by kernel_rfl) (hK21 _ _ ?_)
        refine wp_ret (res_slot hF rfl rfl ⟨rfl, hB⟩)
    refine d_val 0 23 (op := (Go.Op.load 24 (Go.Operand.tmp 3))) hF hS (by kernel_rfl) (fun W hW => x_ldW wide24 (m3_d.k2 hW (by omega)) rfl rfl) (by kernel_rfl) (by decide) fun a hF => ?_
    refine d_val 1 24 (op := (Go.Op.load 24 (Go.Operand.tmp 4))) hF hS (by kernel_rfl) (fun W hW => x_ldW wide24 (m4_d.k2 hW (by omega)) rfl rfl) (by kernel_rfl) (by decide) fun a hF => ?_
    refine d_val 2 25 (op := (Go.Op.load 24 (Go.Operand.tmp 5))) hF hS (by kernel_rfl) (fun W hW => x_ldW wide24 (m5_d.k2 hW (by omega)) rfl rfl) (by kernel_rfl) (by decide) fun a hF => ?_
    refine d_val 5 28 (op := (Go.Op.load 24 (Go.Operand.tmp 5))) hF hS (by kernel_rfl) (fun W hW => x_ldW wide24 (m5_d.k2 hW (by omega)) rfl rfl) (by kernel_rfl) (by decide) fun a hF => ?_
    refine d_val 6 29 (op := (Go.Op.load 24 (Go.Operand.tmp 3))) hF hS (by kernel_rfl) (fun W hW => x_ldW wide24 (m3_d.k2 hW (by omega)) rfl rfl) (by kernel_rfl) (by decide) fun a hF => ?_
    refine d_val 8 31 (op := (Go.Op.load 24 (Go.Operand.tmp 4))) hF hS (by kernel_rfl) (fun W hW => x_ldW wide24 (m4_d.k2 hW (by omega)) rfl rfl) (by kernel_rfl) (by decide) fun a hF => ?_
    refine d_three 3 10 11 (by kernel_rfl) ?_ ?_ ?_
    · refine d_op 3 (some 26) (Go.Op.call (Go.Call.mk (Go.Callee.value (Go.Operand.func 32)) #[(Go.Operand.tmp 24), (Go.Operand.tmp 25)] #[24, 24])) (by kernel_rfl) fun ty pos af => ?_
      refine s_callR (R := fun u w' => ∃ z, u = lv z ∧ RSn w' (fun k => w32.heap.size ≤ k) (.mx (q) (r)) z) [_, _] hF (enters_of Try.func32 (by kernel_rfl) rfl) rfl (by decide) (Max32 (q) (r) y z w32 (RS.below hB hq) (RS.below hB hr) bq.1 bq.2 br.1 br.2) ?_
      rintro _ w78 a ⟨t26, rfl, h26n⟩ B79 hF
      have sB79 := B79.size
      have hB := hB.trans (B79.mono hB.size)
      have m3 := m3.old B79
      have m4 := m4.old B79
      have m5 := m5.old B79
      have hS := hS.below B79
      have h26 := h26n.valid
      have h126 := h26n.rs.one1
      refine s_end ⟨hS, ?_⟩
      refine d_three 4 10 11 (by kernel_rfl) ?_ ?_ ?_
      · refine d_op 4 (some 27) (Go.Op.call (Go.Call.mk (Go.Callee.value (Go.Operand.func 32)) #[(Go.Operand.tmp 23), (Go.Operand.tmp 26)] #[24, 24])) (by kernel_rfl) fun ty pos af => ?_
        refine s_callR (R := fun u w' => ∃ z, u = lv z ∧ RSn w' (fun k => w78.heap.size ≤ k) (.mx (p) (.mx q r)) z) [_, _] hF (enters_of Try.func32 (by kernel_rfl) rfl) rfl (by decide) (Max32 (p) (.mx q r) x t26 w78 (RS.below hB hp) h26.rs bp.1 bp.2 bqr.1 bqr.2) ?_
        rintro _ w80 a ⟨t27, rfl, h27n⟩ B81 hF
        have sB81 := B81.size
        have hB := hB.trans (B81.mono hB.size)
        have m3 := m3.old B81
        have m4 := m4.old B81
        have m5 := m5.old B81
        have h26 := h26.below B81
        have hS := hS.below B81
        have h27 := h27n.valid
        have h127 := h27n.rs.one1
        refine s_end ⟨hS, ?_⟩
        refine d_three 7 10 11 (by kernel_rfl) ?_ ?_ ?_
        · refine d_op 7 (some 30) (Go.Op.call (Go.Call.mk (Go.Callee.value (Go.Operand.func 32)) #[(Go.Operand.tmp 28), (Go.Operand.tmp 29)] #[24, 24])) (by kernel_rfl) fun ty pos af => ?_
          refine s_callR (R := fun u w' => ∃ z, u = lv z ∧ RSn w' (fun k => w80.heap.size ≤ k) (.mx (r) (p)) z) [_, _] hF (enters_of Try.func32 (by kernel_rfl) rfl) rfl (by decide) (Max32 (r) (p) z x w80 (RS.below hB hr) (RS.below hB hp) br.1 br.2 bp.1 bp.2) ?_
          rintro _ w82 a ⟨t30, rfl, h30n⟩ B83 hF
          have sB83 := B83.size
          have hB := hB.trans (B83.mono hB.size)
          have m3 := m3.old B83
          have m4 := m4.old B83
          have m5 := m5.old B83
          have h26 := h26.below B83
          have h27 := h27.below B83
          have hS := hS.below B83
          have h30 := h30n.valid
          have h130 := h30n.rs.one1
          refine s_end ⟨hS, ?_⟩
          refine d_three 9 10 11 (by kernel_rfl) ?_ ?_ ?_
          · refine d_op 9 (some 32) (Go.Op.call (Go.Call.mk (Go.Callee.value (Go.Operand.func 32)) #[(Go.Operand.tmp 30), (Go.Operand.tmp 31)] #[24, 24])) (by kernel_rfl) fun ty pos af => ?_
            refine s_callR (R := fun u w' => ∃ z, u = lv z ∧ RSn w' (fun k => w82.heap.size ≤ k) (.mx (.mx r p) (q)) z) [_, _] hF (enters_of Try.func32 (by kernel_rfl) rfl) rfl (by decide) (Max32 (.mx r p) (q) t30 y w82 h30.rs (RS.below hB hq) brp.1 brp.2 bq.1 bq.2) ?_
            rintro _ w84 a ⟨t32, rfl, h32n⟩ B85 hF
            have sB85 := B85.size
            have hB := hB.trans (B85.mono hB.size)
            have m3 := m3.old B85
            have m4 := m4.old B85
            have m5 := m5.old B85
            have h26 := h26.below B85
            have h27 := h27.below B85
            have h30 := h30.below B85
            have hS := hS.below B85
            have h32 := h32n.valid
            have h132 := h32n.rs.one1
            refine s_end ⟨hS, ?_⟩
            refine d_two 10 11 (by kernel_rfl) ?_ ?_
            · refine d_op 10 (some 7) (Go.Op.alloc 24) (by kernel_rfl) fun ty pos af => ?_
              refine s_alloc hF (by decide) zero24 fun w86 b7 a eb7 m7 B87 zb7 hF => ?_
              have sB87 := B87.size
              have hB := hB.trans (B87.mono hB.size)
              have m3 := m3.old B87
              have m4 := m4.old B87
              have m5 := m5.old B87
              have h26 := h26.below B87
              have h27 := h27.below B87
              have h30 := h30.below B87
              have h32 := h32.below B87
              have hS := hS.below B87
              refine s_end ⟨hS, ?_⟩
              refine d_one 11 (some 8) (Go.Op.alloc 24) (by kernel_rfl) (by kernel_rfl) fun ty pos af => ?_
              refine s_alloc hF (by decide) zero24 fun w88 b8 a eb8 m8 B89 zb8 hF => ?_
              have sB89 := B89.size
              have hB := hB.trans (B89.mono hB.size)
              have m3 := m3.old B89
              have m4 := m4.old B89
              have m5 := m5.old B89
              have h26 := h26.below B89
              have h27 := h27.below B89
              have h30 := h30.below B89
              have h32 := h32.below B89
              have m7 := m7.old B89
              have hS := hS.below B89
              refine s_end ⟨hS, ?_⟩
              refine d_one 12 none (Go.Op.store 24 (Go.Operand.tmp 7) (Go.Operand.tmp 27)) (by kernel_rfl) (by kernel_rfl) fun ty pos af => ?_
              refine s_putW hF rfl rfl (size_wide wide24) m7 rfl (one_lc h127) fun w90 m7 o91 => ?_
              have so91 := o91.size
              have hB := hB.trans (o91.below (by omega))
              have m3 := m3.only o91 (by omega)
              have m4 := m4.only o91 (by omega)
              have m5 := m5.only o91 (by omega)
              have h26 := h26.only o91 (fun k (hk : w32.heap.size ≤ k ∧ k < w78.heap.size) => by omega)
              have h27 := h27.only o91 (fun k (hk : w78.heap.size ≤ k ∧ k < w80.heap.size) => by omega)
              have h30 := h30.only o91 (fun k (hk : w80.heap.size ≤ k ∧ k < w82.heap.size) => by omega)
              have h32 := h32.only o91 (fun k (hk : w82.heap.size ≤ k ∧ k < w84.heap.size) => by omega)
              have m8 := m8.only o91 (by omega)
              have hS := hS.only o91 (by omega)
              refine s_end ⟨hS, ?_⟩
              refine d_one 13 none (Go.Op.store 24 (Go.Operand.tmp 8) (Go.Operand.tmp 32)) (by kernel_rfl) (by kernel_rfl) fun ty pos af => ?_
              refine s_putW hF rfl rfl (size_wide wide24) m8 rfl (one_lc h132) fun w92 m8 o93 => ?_
              have so93 := o93.size
              have hB := hB.trans (o93.below (by omega))
              have m3 := m3.only o93 (by omega)
              have m4 := m4.only o93 (by omega)
              have m5 := m5.only o93 (by omega)
              have h26 := h26.only o93 (fun k (hk : w32.heap.size ≤ k ∧ k < w78.heap.size) => by omega)
              have h27 := h27.only o93 (fun k (hk : w78.heap.size ≤ k ∧ k < w80.heap.size) => by omega)
              have h30 := h30.only o93 (fun k (hk : w80.heap.size ≤ k ∧ k < w82.heap.size) => by omega)
              have h32 := h32.only o93 (fun k (hk : w82.heap.size ≤ k ∧ k < w84.heap.size) => by omega)
              have m7 := m7.only o93 (by omega)
              have hS := hS.only o93 (by omega)
              refine s_end ⟨hS, ?_⟩
              refine d_end (by kernel_rfl) ?_
              exact key11 _ _ _ _ _ _ hB m3 m4 m5 m7 m8 h27.rs h32.rs (hF.sub _ rfl)
            · refine d_op 11 (some 8) (Go.Op.alloc 24) (by kernel_rfl) fun ty pos af => ?_
              refine s_alloc hF (by decide) zero24 fun w94 b8 a eb8 m8 B95 zb8 hF => ?_
              have sB95 := B95.size
              have hB := hB.trans (B95.mono hB.size)
              have m3 := m3.old B95
              have m4 := m4.old B95
              have m5 := m5.old B95
              have h26 := h26.below B95
              have h27 := h27.below B95
              have h30 := h30.below B95
              have h32 := h32.below B95
              have hS := hS.below B95
              refine s_end ⟨hS, ?_⟩
              refine d_one 10 (some 7) (Go.Op.alloc 24) (by kernel_rfl) (by kernel_rfl) fun ty pos af => ?_
              refine s_alloc hF (by decide) zero24 fun w96 b7 a eb7 m7 B97 zb7 hF => ?_
              have sB97 := B97.size
              have hB := hB.trans (B97.mono hB.size)
              have m3 := m3.old B97
              have m4 := m4.old B97
              have m5 := m5.old B97
              have h26 := h26.below B97
              have h27 := h27.below B97
              have h30 := h30.below B97
              have h32 := h32.below B97
              have m8 := m8.old B97
              have hS := hS.below B97
              refine s_end ⟨hS, ?_⟩
              refine d_one 12 none (Go.Op.store 24 (Go.Operand.tmp 7) (Go.Operand.tmp 27)) (by kernel_rfl) (by kernel_rfl) fun ty pos af => ?_
              refine s_putW hF rfl rfl (size_wide wide24) m7 rfl (one_lc h127) fun w98 m7 o99 => ?_
              have so99 := o99.size
              have hB := hB.trans (o99.below (by omega))
              have m3 := m3.only o99 (by omega)
              have m4 := m4.only o99 (by omega)
              have m5 := m5.only o99 (by omega)
              have h26 := h26.only o99 (fun k (hk : w32.heap.size ≤ k ∧ k < w78.heap.size) => by omega)
              have h27 := h27.only o99 (fun k (hk : w78.heap.size ≤ k ∧ k < w80.heap.size) => by omega)
              have h30 := h30.only o99 (fun k (hk : w80.heap.size ≤ k ∧ k < w82.heap.size) => by omega)
              have h32 := h32.only o99 (fun k (hk : w82.heap.size ≤ k ∧ k < w84.heap.size) => by omega)
              have m8 := m8.only o99 (by omega)
              have hS := hS.only o99 (by omega)
              refine s_end ⟨hS, ?_⟩
              refine d_one 13 none (Go.Op.store 24 (Go.Operand.tmp 8) (Go.Operand.tmp 32)) (by kernel_rfl) (by kernel_rfl) fun ty pos af => ?_
              refine s_putW hF rfl rfl (size_wide wide24) m8 rfl (one_lc h132) fun w100 m8 o101 => ?_
              have so101 := o101.size
              have hB := hB.trans (o101.below (by omega))
              have m3 := m3.only o101 (by omega)
              have m4 := m4.only o101 (by omega)
              have m5 := m5.only o101 (by omega)
              have h26 := h26.only o101 (fun k (hk : w32.heap.size ≤ k ∧ k < w78.heap.size) => by omega)
              have h27 := h27.only o101 (fun k (hk : w78.heap.size ≤ k ∧ k < w80.heap.size) => by omega)
              have h30 := h30.only o101 (fun k (hk : w80.heap.size ≤ k ∧ k < w82.heap.size) => by omega)
              have h32 := h32.only o101 (fun k (hk : w82.heap.size ≤ k ∧ k < w84.heap.size) => by omega)
              have m7 := m7.only o101 (by omega)
              have hS := hS.only o101 (by omega)
              refine s_end ⟨hS, ?_⟩
              refine d_end (by kernel_rfl) ?_
              exact key11 _ _ _ _ _ _ hB m3 m4 m5 m7 m8 h27.rs h32.rs (hF.sub _ rfl)
          · refine d_op 10 (some 7) (Go.Op.alloc 24) (by kernel_rfl) fun ty pos af => ?_
            refine s_alloc hF (by decide) zero24 fun w102 b7 a eb7 m7 B103 zb7 hF => ?_
            have sB103 := B103.size
            have hB := hB.trans (B103.mono hB.size)
            have m3 := m3.old B103
            have m4 := m4.old B103
            have m5 := m5.old B103
            have h26 := h26.below B103
            have h27 := h27.below B103
            have h30 := h30.below B103
            have hS := hS.below B103
            refine s_end ⟨hS, ?_⟩
            refine d_two 9 11 (by kernel_rfl) ?_ ?_
            · refine d_op 9 (some 32) (Go.Op.call (Go.Call.mk (Go.Callee.value (Go.Operand.func 32)) #[(Go.Operand.tmp 30), (Go.Operand.tmp 31)] #[24, 24])) (by kernel_rfl) fun ty pos af => ?_
              refine s_callR (R := fun u w' => ∃ z, u = lv z ∧ RSn w' (fun k => w102.heap.size ≤ k) (.mx (.mx r p) (q)) z) [_, _] hF (enters_of Try.func32 (by kernel_rfl) rfl) rfl (by decide) (Max32 (.mx r p) (q) t30 y w102 h30.rs (RS.below hB hq) brp.1 brp.2 bq.1 bq.2) ?_
              rintro _ w104 a ⟨t32, rfl, h32n⟩ B105 hF
              have sB105 := B105.size
              have hB := hB.trans (B105.mono hB.size)
              have m3 := m3.old B105
              have m4 := m4.old B105
              have m5 := m5.old B105
              have h26 := h26.below B105
              have h27 := h27.below B105
              have h30 := h30.below B105
              have m7 := m7.old B105
              have hS := hS.below B105
              have h32 := h32n.valid
              have h132 := h32n.rs.one1
              refine s_end ⟨hS, ?_⟩
              refine d_one 11 (some 8) (Go.Op.alloc 24) (by kernel_rfl) (by kernel_rfl) fun ty pos af => ?_
              refine s_alloc hF (by decide) zero24 fun w106 b8 a eb8 m8 B107 zb8 hF => ?_
              have sB107 := B107.size
              have hB := hB.trans (B107.mono hB.size)
              have m3 := m3.old B107
              have m4 := m4.old B107
              have m5 := m5.old B107
              have h26 := h26.below B107
              have h27 := h27.below B107
              have h30 := h30.below B107
              have m7 := m7.old B107
              have h32 := h32.below B107
              have hS := hS.below B107
              refine s_end ⟨hS, ?_⟩
              refine d_one 12 none (Go.Op.store 24 (Go.Operand.tmp 7) (Go.Operand.tmp 27)) (by kernel_rfl) (by kernel_rfl) fun ty pos af => ?_
              refine s_putW hF rfl rfl (size_wide wide24) m7 rfl (one_lc h127) fun w108 m7 o109 => ?_
              have so109 := o109.size
              have hB := hB.trans (o109.below (by omega))
              have m3 := m3.only o109 (by omega)
              have m4 := m4.only o109 (by omega)
              have m5 := m5.only o109 (by omega)
              have h26 := h26.only o109 (fun k (hk : w32.heap.size ≤ k ∧ k < w78.heap.size) => by omega)
              have h27 := h27.only o109 (fun k (hk : w78.heap.size ≤ k ∧ k < w80.heap.size) => by omega)
              have h30 := h30.only o109 (fun k (hk : w80.heap.size ≤ k ∧ k < w82.heap.size) => by omega)
              have h32 := h32.only o109 (fun k (hk : w102.heap.size ≤ k ∧ k < w104.heap.size) => by omega)
              have m8 := m8.only o109 (by omega)
              have hS := hS.only o109 (by omega)
              refine s_end ⟨hS, ?_⟩
              refine d_one 13 none (Go.Op.store 24 (Go.Operand.tmp 8) (Go.Operand.tmp 32)) (by kernel_rfl) (by kernel_rfl) fun ty pos af => ?_
              refine s_putW hF rfl rfl (size_wide wide24) m8 rfl (one_lc h132) fun w110 m8 o111 => ?_
              have so111 := o111.size
              have hB := hB.trans (o111.below (by omega))
              have m3 := m3.only o111 (by omega)
              have m4 := m4.only o111 (by omega)
              have m5 := m5.only o111 (by omega)
              have h26 := h26.only o111 (fun k (hk : w32.heap.size ≤ k ∧ k < w78.heap.size) => by omega)
              have h27 := h27.only o111 (fun k (hk : w78.heap.size ≤ k ∧ k < w80.heap.size) => by omega)
              have h30 := h30.only o111 (fun k (hk : w80.heap.size ≤ k ∧ k < w82.heap.size) => by omega)
              have m7 := m7.only o111 (by omega)
              have h32 := h32.only o111 (fun k (hk : w102.heap.size ≤ k ∧ k < w104.heap.size) => by omega)
              have hS := hS.only o111 (by omega)
              refine s_end ⟨hS, ?_⟩
              refine d_end (by kernel_rfl) ?_
              exact key11 _ _ _ _ _ _ hB m3 m4 m5 m7 m8 h27.rs h32.rs (hF.sub _ rfl)
            · refine d_op 11 (some 8) (Go.Op.alloc 24) (by kernel_rfl) fun ty pos af => ?_
              refine s_alloc hF (by decide) zero24 fun w112 b8 a eb8 m8 B113 zb8 hF => ?_
              have sB113 := B113.size
              have hB := hB.trans (B113.mono hB.size)
              have m3 := m3.old B113
              have m4 := m4.old B113
              have m5 := m5.old B113
              have h26 := h26.below B113
              have h27 := h27.below B113
              have h30 := h30.below B113
              have m7 := m7.old B113
              have hS := hS.below B113
              refine s_end ⟨hS, ?_⟩
              refine d_one 9 (some 32) (Go.Op.call (Go.Call.mk (Go.Callee.value (Go.Operand.func 32)) #[(Go.Operand.tmp 30), (Go.Operand.tmp 31)] #[24, 24])) (by kernel_rfl) (by kernel_rfl) fun ty pos af => ?_
              refine s_callR (R := fun u w' => ∃ z, u = lv z ∧ RSn w' (fun k => w112.heap.size ≤ k) (.mx (.mx r p) (q)) z) [_, _] hF (enters_of Try.func32 (by kernel_rfl) rfl) rfl (by decide) (Max32 (.mx r p) (q) t30 y w112 h30.rs (RS.below hB hq) brp.1 brp.2 bq.1 bq.2) ?_
              rintro _ w114 a ⟨t32, rfl, h32n⟩ B115 hF
              have sB115 := B115.size
              have hB := hB.trans (B115.mono hB.size)
              have m3 := m3.old B115
              have m4 := m4.old B115
              have m5 := m5.old B115
              have h26 := h26.below B115
              have h27 := h27.below B115
              have h30 := h30.below B115
              have m7 := m7.old B115
              have m8 := m8.old B115
              have hS := hS.below B115
              have h32 := h32n.valid
              have h132 := h32n.rs.one1
              refine s_end ⟨hS, ?_⟩
              refine d_one 12 none (Go.Op.store 24 (Go.Operand.tmp 7) (Go.Operand.tmp 27)) (by kernel_rfl) (by kernel_rfl) fun ty pos af => ?_
              refine s_putW hF rfl rfl (size_wide wide24) m7 rfl (one_lc h127) fun w116 m7 o117 => ?_
              have so117 := o117.size
              have hB := hB.trans (o117.below (by omega))
              have m3 := m3.only o117 (by omega)
              have m4 := m4.only o117 (by omega)
              have m5 := m5.only o117 (by omega)
              have h26 := h26.only o117 (fun k (hk : w32.heap.size ≤ k ∧ k < w78.heap.size) => by omega)
              have h27 := h27.only o117 (fun k (hk : w78.heap.size ≤ k ∧ k < w80.heap.size) => by omega)
              have h30 := h30.only o117 (fun k (hk : w80.heap.size ≤ k ∧ k < w82.heap.size) => by omega)
              have m8 := m8.only o117 (by omega)
              have h32 := h32.only o117 (fun k (hk : w112.heap.size ≤ k ∧ k < w114.heap.size) => by omega)
              have hS := hS.only o117 (by omega)
              refine s_end ⟨hS, ?_⟩
              refine d_one 13 none (Go.Op.store 24 (Go.Operand.tmp 8) (Go.Operand.tmp 32)) (by kernel_rfl) (by kernel_rfl) fun ty pos af => ?_
              refine s_putW hF rfl rfl (size_wide wide24) m8 rfl (one_lc h132) fun w118 m8 o119 => ?_
              have so119 := o119.size
              have hB := hB.trans (o119.below (by omega))
              have m3 := m3.only o119 (by omega)
              have m4 := m4.only o119 (by omega)
              have m5 := m5.only o119 (by omega)
              have h26 := h26.only o119 (fun k (hk : w32.heap.size ≤ k ∧ k < w78.heap.size) => by omega)
              have h27 := h27.only o119 (fun k (hk : w78.heap.size ≤ k ∧ k < w80.heap.size) => by omega)
              have h30 := h30.only o119 (fun k (hk : w80.heap.size ≤ k ∧ k < w82.heap.size) => by omega)
              have m7 := m7.only o119 (by omega)
              have h32 := h32.only o119 (fun k (hk : w112.heap.size ≤ k ∧ k < w114.heap.size) => by omega)
              have hS := hS.only o119 (by omega)
              refine s_end ⟨hS, ?_⟩
              refine d_end (by kernel_rfl) ?_
              exact key11 _ _ _ _ _ _ hB m3 m4 m5 m7 m8 h27.rs h32.rs (hF.sub _ rfl)
          · refine d_op 11 (some 8) (Go.Op.alloc 24) (by kernel_rfl) fun ty pos af => ?_
            refine s_alloc hF (by decide) zero24 fun w120 b8 a eb8 m8 B121 zb8 hF => ?_
            have sB121 := B121.size
            have hB := hB.trans (B121.mono hB.size)
            have m3 := m3.old B121
            have m4 := m4.old B121
            have m5 := m5.old B121
            have h26 := h26.below B121
            have h27 := h27.below B121
            have h30 := h30.below B121
            have hS := hS.below B121
            refine s_end ⟨hS, ?_⟩
            refine d_two 9 10 (by kernel_rfl) ?_ ?_
            · refine d_op 9 (some 32) (Go.Op.call (Go.Call.mk (Go.Callee.value (Go.Operand.func 32)) #[(Go.Operand.tmp 30), (Go.Operand.tmp 31)] #[24, 24])) (by kernel_rfl) fun ty pos af => ?_
              refine s_callR (R := fun u w' => ∃ z, u = lv z ∧ RSn w' (fun k => w120.heap.size ≤ k) (.mx (.mx r p) (q)) z) [_, _] hF (enters_of Try.func32 (by kernel_rfl) rfl) rfl (by decide) (Max32 (.mx r p) (q) t30 y w120 h30.rs (RS.below hB hq) brp.1 brp.2 bq.1 bq.2) ?_
              rintro _ w122 a ⟨t32, rfl, h32n⟩ B123 hF
              have sB123 := B123.size
              have hB := hB.trans (B123.mono hB.size)
              have m3 := m3.old B123
              have m4 := m4.old B123
              have m5 := m5.old B123
              have h26 := h26.below B123
              have h27 := h27.below B123
              have h30 := h30.below B123
              have m8 := m8.old B123
              have hS := hS.below B123
              have h32 := h32n.valid
              have h132 := h32n.rs.one1
              refine s_end ⟨hS, ?_⟩
              refine d_one 10 (some 7) (Go.Op.alloc 24) (by kernel_rfl) (by kernel_rfl) fun ty pos af => ?_
              refine s_alloc hF (by decide) zero24 fun w124 b7 a eb7 m7 B125 zb7 hF => ?_
              have sB125 := B125.size
              have hB := hB.trans (B125.mono hB.size)
              have m3 := m3.old B125
              have m4 := m4.old B125
              have m5 := m5.old B125
              have h26 := h26.below B125
              have h27 := h27.below B125
              have h30 := h30.below B125
              have m8 := m8.old B125
              have h32 := h32.below B125
              have hS := hS.below B125
              refine s_end ⟨hS, ?_⟩
              refine d_one 12 none (Go.Op.store 24 (Go.Operand.tmp 7) (Go.Operand.tmp 27)) (by kernel_rfl) (by kernel_rfl) fun ty pos af => ?_
              refine s_putW hF rfl rfl (size_wide wide24) m7 rfl (one_lc h127) fun w126 m7 o127 => ?_
              have so127 := o127.size
              have hB := hB.trans (o127.below (by omega))
              have m3 := m3.only o127 (by omega)
              have m4 := m4.only o127 (by omega)
              have m5 := m5.only o127 (by omega)
              have h26 := h26.only o127 (fun k (hk : w32.heap.size ≤ k ∧ k < w78.heap.size) => by omega)
              have h27 := h27.only o127 (fun k (hk : w78.heap.size ≤ k ∧ k < w80.heap.size) => by omega)
              have h30 := h30.only o127 (fun k (hk : w80.heap.size ≤ k ∧ k < w82.heap.size) => by omega)
              have m8 := m8.only o127 (by omega)
              have h32 := h32.only o127 (fun k (hk : w120.heap.size ≤ k ∧ k < w122.heap.size) => by omega)
              have hS := hS.only o127 (by omega)
              refine s_end ⟨hS, ?_⟩
              refine d_one 13 none (Go.Op.store 24 (Go.Operand.tmp 8) (Go.Operand.tmp 32)) (by kernel_rfl) (by kernel_rfl) fun ty pos af => ?_
              refine s_putW hF rfl rfl (size_wide wide24) m8 rfl (one_lc h132) fun w128 m8 o129 => ?_
              have so129 := o129.size
              have hB := hB.trans (o129.below (by omega))
              have m3 := m3.only o129 (by omega)
              have m4 := m4.only o129 (by omega)
              have m5 := m5.only o129 (by omega)
              have h26 := h26.only o129 (fun k (hk : w32.heap.size ≤ k ∧ k < w78.heap.size) => by omega)
              have h27 := h27.only o129 (fun k (hk : w78.heap.size ≤ k ∧ k < w80.heap.size) => by omega)
              have h30 := h30.only o129 (fun k (hk : w80.heap.size ≤ k ∧ k < w82.heap.size) => by omega)
              have h32 := h32.only o129 (fun k (hk : w120.heap.size ≤ k ∧ k < w122.heap.size) => by omega)
              have m7 := m7.only o129 (by omega)
              have hS := hS.only o129 (by omega)
              refine s_end ⟨hS, ?_⟩
              refine d_end (by kernel_rfl) ?_
              exact key11 _ _ _ _ _ _ hB m3 m4 m5 m7 m8 h27.rs h32.rs (hF.sub _ rfl)
            · refine d_op 10 (some 7) (Go.Op.alloc 24) (by kernel_rfl) fun ty pos af => ?_
              refine s_alloc hF (by decide) zero24 fun w130 b7 a eb7 m7 B131 zb7 hF => ?_
              have sB131 := B131.size
              have hB := hB.trans (B131.mono hB.size)
              have m3 := m3.old B131
              have m4 := m4.old B131
              have m5 := m5.old B131
              have h26 := h26.below B131
              have h27 := h27.below B131
              have h30 := h30.below B131
              have m8 := m8.old B131
              have hS := hS.below B131
              refine s_end ⟨hS, ?_⟩
              refine d_one 9 (some 32) (Go.Op.call (Go.Call.mk (Go.Callee.value (Go.Operand.func 32)) #[(Go.Operand.tmp 30), (Go.Operand.tmp 31)] #[24, 24])) (by kernel_rfl) (by kernel_rfl) fun ty pos af => ?_
              refine s_callR (R := fun u w' => ∃ z, u = lv z ∧ RSn w' (fun k => w130.heap.size ≤ k) (.mx (.mx r p) (q)) z) [_, _] hF (enters_of Try.func32 (by kernel_rfl) rfl) rfl (by decide) (Max32 (.mx r p) (q) t30 y w130 h30.rs (RS.below hB hq) brp.1 brp.2 bq.1 bq.2) ?_
              rintro _ w132 a ⟨t32, rfl, h32n⟩ B133 hF
              have sB133 := B133.size
              have hB := hB.trans (B133.mono hB.size)
              have m3 := m3.old B133
              have m4 := m4.old B133
              have m5 := m5.old B133
              have h26 := h26.below B133
              have h27 := h27.below B133
              have h30 := h30.below B133
              have m8 := m8.old B133
              have m7 := m7.old B133
              have hS := hS.below B133
              have h32 := h32n.valid
              have h132 := h32n.rs.one1
              refine s_end ⟨hS, ?_⟩
              refine d_one 12 none (Go.Op.store 24 (Go.Operand.tmp 7) (Go.Operand.tmp 27)) (by kernel_rfl) (by kernel_rfl) fun ty pos af => ?_
              refine s_putW hF rfl rfl (size_wide wide24) m7 rfl (one_lc h127) fun w134 m7 o135 => ?_
              have so135 := o135.size
              have hB := hB.trans (o135.below (by omega))
              have m3 := m3.only o135 (by omega)
              have m4 := m4.only o135 (by omega)
              have m5 := m5.only o135 (by omega)
              have h26 := h26.only o135 (fun k (hk : w32.heap.size ≤ k ∧ k < w78.heap.size) => by omega)
              have h27 := h27.only o135 (fun k (hk : w78.heap.size ≤ k ∧ k < w80.heap.size) => by omega)
              have h30 := h30.only o135 (fun k (hk : w80.heap.size ≤ k ∧ k < w82.heap.size) => by omega)
              have m8 := m8.only o135 (by omega)
              have h32 := h32.only o135 (fun k (hk : w130.heap.size ≤ k ∧ k < w132.heap.size) => by omega)
              have hS := hS.only o135 (by omega)
              refine s_end ⟨hS, ?_⟩
              refine d_one 13 none (Go.Op.store 24 (Go.Operand.tmp 8) (Go.Operand.tmp 32)) (by kernel_rfl) (by kernel_rfl) fun ty pos af => ?_
              refine s_putW hF rfl rfl (size_wide wide24) m8 rfl (one_lc h132) fun w136 m8 o137 => ?_
              have so137 := o137.size
              have hB := hB.trans (o137.below (by omega))
              have m3 := m3.only o137 (by omega)
              have m4 := m4.only o137 (by omega)
              have m5 := m5.only o137 (by omega)
              have h26 := h26.only o137 (fun k (hk : w32.heap.size ≤ k ∧ k < w78.heap.size) => by omega)
              have h27 := h27.only o137 (fun k (hk : w78.heap.size ≤ k ∧ k < w80.heap.size) => by omega)
              have h30 := h30.only o137 (fun k (hk : w80.heap.size ≤ k ∧ k < w82.heap.size) => by omega)
              have m7 := m7.only o137 (by omega)
              have h32 := h32.only o137 (fun k (hk : w130.heap.size ≤ k ∧ k < w132.heap.size) => by omega)
              have hS := hS.only o137 (by omega)
              refine s_end ⟨hS, ?_⟩
              refine d_end (by kernel_rfl) ?_
              exact key11 _ _ _ _ _ _ hB m3 m4 m5 m7 m8 h27.rs h32.rs (hF.sub _ rfl)
        · refine d_op 10 (some 7) (Go.Op.alloc 24) (by kernel_rfl) fun ty pos af => ?_
          refine s_alloc hF (by decide) zero24 fun w138 b7 a eb7 m7 B139 zb7 hF => ?_
          have sB139 := B139.size
          have hB := hB.trans (B139.mono hB.size)
          have m3 := m3.old B139
          have m4 := m4.old B139
          have m5 := m5.old B139
          have h26 := h26.below B139
          have h27 := h27.below B139
          have hS := hS.below B139
          refine s_end ⟨hS, ?_⟩
          refine d_two 7 11 (by kernel_rfl) ?_ ?_
          · refine d_op 7 (some 30) (Go.Op.call (Go.Call.mk (Go.Callee.value (Go.Operand.func 32)) #[(Go.Operand.tmp 28), (Go.Operand.tmp 29)] #[24, 24])) (by kernel_rfl) fun ty pos af => ?_
            refine s_callR (R := fun u w' => ∃ z, u = lv z ∧ RSn w' (fun k => w138.heap.size ≤ k) (.mx (r) (p)) z) [_, _] hF (enters_of Try.func32 (by kernel_rfl) rfl) rfl (by decide) (Max32 (r) (p) z x w138 (RS.below hB hr) (RS.below hB hp) br.1 br.2 bp.1 bp.2) ?_
            rintro _ w140 a ⟨t30, rfl, h30n⟩ B141 hF
            have sB141 := B141.size
            have hB := hB.trans (B141.mono hB.size)
            have m3 := m3.old B141
            have m4 := m4.old B141
            have m5 := m5.old B141
            have h26 := h26.below B141
            have h27 := h27.below B141
            have m7 := m7.old B141
            have hS := hS.below B141
            have h30 := h30n.valid
            have h130 := h30n.rs.one1
            refine s_end ⟨hS, ?_⟩
            refine d_two 9 11 (by kernel_rfl) ?_ ?_
            · refine d_op 9 (some 32) (Go.Op.call (Go.Call.mk (Go.Callee.value (Go.Operand.func 32)) #[(Go.Operand.tmp 30), (Go.Operand.tmp 31)] #[24, 24])) (by kernel_rfl) fun ty pos af => ?_
              refine s_callR (R := fun u w' => ∃ z, u = lv z ∧ RSn w' (fun k => w140.heap.size ≤ k) (.mx (.mx r p) (q)) z) [_, _] hF (enters_of Try.func32 (by kernel_rfl) rfl) rfl (by decide) (Max32 (.mx r p) (q) t30 y w140 h30.rs (RS.below hB hq) brp.1 brp.2 bq.1 bq.2) ?_
              rintro _ w142 a ⟨t32, rfl, h32n⟩ B143 hF
              have sB143 := B143.size
              have hB := hB.trans (B143.mono hB.size)
              have m3 := m3.old B143
              have m4 := m4.old B143
              have m5 := m5.old B143
              have h26 := h26.below B143
              have h27 := h27.below B143
              have m7 := m7.old B143
              have h30 := h30.below B143
              have hS := hS.below B143
              have h32 := h32n.valid
              have h132 := h32n.rs.one1
              refine s_end ⟨hS, ?_⟩
              refine d_one 11 (some 8) (Go.Op.alloc 24) (by kernel_rfl) (by kernel_rfl) fun ty pos af => ?_
              refine s_alloc hF (by decide) zero24 fun w144 b8 a eb8 m8 B145 zb8 hF => ?_
              have sB145 := B145.size
              have hB := hB.trans (B145.mono hB.size)
              have m3 := m3.old B145
              have m4 := m4.old B145
              have m5 := m5.old B145
              have h26 := h26.below B145
              have h27 := h27.below B145
              have m7 := m7.old B145
              have h30 := h30.below B145
              have h32 := h32.below B145
              have hS := hS.below B145
              refine s_end ⟨hS, ?_⟩
              refine d_one 12 none (Go.Op.store 24 (Go.Operand.tmp 7) (Go.Operand.tmp 27)) (by kernel_rfl) (by kernel_rfl) fun ty pos af => ?_
              refine s_putW hF rfl rfl (size_wide wide24) m7 rfl (one_lc h127) fun w146 m7 o147 => ?_
              have so147 := o147.size
              have hB := hB.trans (o147.below (by omega))
              have m3 := m3.only o147 (by omega)
              have m4 := m4.only o147 (by omega)
              have m5 := m5.only o147 (by omega)
              have h26 := h26.only o147 (fun k (hk : w32.heap.size ≤ k ∧ k < w78.heap.size) => by omega)
              have h27 := h27.only o147 (fun k (hk : w78.heap.size ≤ k ∧ k < w80.heap.size) => by omega)
              have h30 := h30.only o147 (fun k (hk : w138.heap.size ≤ k ∧ k < w140.heap.size) => by omega)
              have h32 := h32.only o147 (fun k (hk : w140.heap.size ≤ k ∧ k < w142.heap.size) => by omega)
              have m8 := m8.only o147 (by omega)
              have hS := hS.only o147 (by omega)
              refine s_end ⟨hS, ?_⟩
              refine d_one 13 none (Go.Op.store 24 (Go.Operand.tmp 8) (Go.Operand.tmp 32)) (by kernel_rfl) (by kernel_rfl) fun ty pos af => ?_
              refine s_putW hF rfl rfl (size_wide wide24) m8 rfl (one_lc h132) fun w148 m8 o149 => ?_
              have so149 := o149.size
              have hB := hB.trans (o149.below (by omega))
              have m3 := m3.only o149 (by omega)
              have m4 := m4.only o149 (by omega)
              have m5 := m5.only o149 (by omega)
              have h26 := h26.only o149 (fun k (hk : w32.heap.size ≤ k ∧ k < w78.heap.size) => by omega)
              have h27 := h27.only o149 (fun k (hk : w78.heap.size ≤ k ∧ k < w80.heap.size) => by omega)
              have m7 := m7.only o149 (by omega)
              have h30 := h30.only o149 (fun k (hk : w138.heap.size ≤ k ∧ k < w140.heap.size) => by omega)
              have h32 := h32.only o149 (fun k (hk : w140.heap.size ≤ k ∧ k < w142.heap.size) => by omega)
              have hS := hS.only o149 (by omega)
              refine s_end ⟨hS, ?_⟩
              refine d_end (by kernel_rfl) ?_
              exact key11 _ _ _ _ _ _ hB m3 m4 m5 m7 m8 h27.rs h32.rs (hF.sub _ rfl)
            · refine d_op 11 (some 8) (Go.Op.alloc 24) (by kernel_rfl) fun ty pos af => ?_
              refine s_alloc hF (by decide) zero24 fun w150 b8 a eb8 m8 B151 zb8 hF => ?_
              have sB151 := B151.size
              have hB := hB.trans (B151.mono hB.size)
              have m3 := m3.old B151
              have m4 := m4.old B151
              have m5 := m5.old B151
              have h26 := h26.below B151
              have h27 := h27.below B151
              have m7 := m7.old B151
              have h30 := h30.below B151
              have hS := hS.below B151
              refine s_end ⟨hS, ?_⟩
              refine d_one 9 (some 32) (Go.Op.call (Go.Call.mk (Go.Callee.value (Go.Operand.func 32)) #[(Go.Operand.tmp 30), (Go.Operand.tmp 31)] #[24, 24])) (by kernel_rfl) (by kernel_rfl) fun ty pos af => ?_
              refine s_callR (R := fun u w' => ∃ z, u = lv z ∧ RSn w' (fun k => w150.heap.size ≤ k) (.mx (.mx r p) (q)) z) [_, _] hF (enters_of Try.func32 (by kernel_rfl) rfl) rfl (by decide) (Max32 (.mx r p) (q) t30 y w150 h30.rs (RS.below hB hq) brp.1 brp.2 bq.1 bq.2) ?_
              rintro _ w152 a ⟨t32, rfl, h32n⟩ B153 hF
              have sB153 := B153.size
              have hB := hB.trans (B153.mono hB.size)
              have m3 := m3.old B153
              have m4 := m4.old B153
              have m5 := m5.old B153
              have h26 := h26.below B153
              have h27 := h27.below B153
              have m7 := m7.old B153
              have h30 := h30.below B153
              have m8 := m8.old B153
              have hS := hS.below B153
              have h32 := h32n.valid
              have h132 := h32n.rs.one1
              refine s_end ⟨hS, ?_⟩
              refine d_one 12 none (Go.Op.store 24 (Go.Operand.tmp 7) (Go.Operand.tmp 27)) (by kernel_rfl) (by kernel_rfl) fun ty pos af => ?_
              refine s_putW hF rfl rfl (size_wide wide24) m7 rfl (one_lc h127) fun w154 m7 o155 => ?_
              have so155 := o155.size
              have hB := hB.trans (o155.below (by omega))
              have m3 := m3.only o155 (by omega)
              have m4 := m4.only o155 (by omega)
              have m5 := m5.only o155 (by omega)
              have h26 := h26.only o155 (fun k (hk : w32.heap.size ≤ k ∧ k < w78.heap.size) => by omega)
              have h27 := h27.only o155 (fun k (hk : w78.heap.size ≤ k ∧ k < w80.heap.size) => by omega)
              have h30 := h30.only o155 (fun k (hk : w138.heap.size ≤ k ∧ k < w140.heap.size) => by omega)
              have m8 := m8.only o155 (by omega)
              have h32 := h32.only o155 (fun k (hk : w150.heap.size ≤ k ∧ k < w152.heap.size) => by omega)
              have hS := hS.only o155 (by omega)
              refine s_end ⟨hS, ?_⟩
              refine d_one 13 none (Go.Op.store 24 (Go.Operand.tmp 8) (Go.Operand.tmp 32)) (by kernel_rfl) (by kernel_rfl) fun ty pos af => ?_
              refine s_putW hF rfl rfl (size_wide wide24) m8 rfl (one_lc h132) fun w156 m8 o157 => ?_
              have so157 := o157.size
              have hB := hB.trans (o157.below (by omega))
              have m3 := m3.only o157 (by omega)
              have m4 := m4.only o157 (by omega)
              have m5 := m5.only o157 (by omega)
              have h26 := h26.only o157 (fun k (hk : w32.heap.size ≤ k ∧ k < w78.heap.size) => by omega)
              have h27 := h27.only o157 (fun k (hk : w78.heap.size ≤ k ∧ k < w80.heap.size) => by omega)
              have m7 := m7.only o157 (by omega)
              have h30 := h30.only o157 (fun k (hk : w138.heap.size ≤ k ∧ k < w140.heap.size) => by omega)
              have h32 := h32.only o157 (fun k (hk : w150.heap.size ≤ k ∧ k < w152.heap.size) => by omega)
              have hS := hS.only o157 (by omega)
              refine s_end ⟨hS, ?_⟩
              refine d_end (by kernel_rfl) ?_
              exact key11 _ _ _ _ _ _ hB m3 m4 m5 m7 m8 h27.rs h32.rs (hF.sub _ rfl)
          · refine d_op 11 (some 8) (Go.Op.alloc 24) (by kernel_rfl) fun ty pos af => ?_
            refine s_alloc hF (by decide) zero24 fun w158 b8 a eb8 m8 B159 zb8 hF => ?_
            have sB159 := B159.size
            have hB := hB.trans (B159.mono hB.size)
            have m3 := m3.old B159
            have m4 := m4.old B159
            have m5 := m5.old B159
            have h26 := h26.below B159
            have h27 := h27.below B159
            have m7 := m7.old B159
            have hS := hS.below B159
            refine s_end ⟨hS, ?_⟩
            refine d_one 7 (some 30) (Go.Op.call (Go.Call.mk (Go.Callee.value (Go.Operand.func 32)) #[(Go.Operand.tmp 28), (Go.Operand.tmp 29)] #[24, 24])) (by kernel_rfl) (by kernel_rfl) fun ty pos af => ?_
            refine s_callR (R := fun u w' => ∃ z, u = lv z ∧ RSn w' (fun k => w158.heap.size ≤ k) (.mx (r) (p)) z) [_, _] hF (enters_of Try.func32 (by kernel_rfl) rfl) rfl (by decide) (Max32 (r) (p) z x w158 (RS.below hB hr) (RS.below hB hp) br.1 br.2 bp.1 bp.2) ?_
            rintro _ w160 a ⟨t30, rfl, h30n⟩ B161 hF
            have sB161 := B161.size
            have hB := hB.trans (B161.mono hB.size)
            have m3 := m3.old B161
            have m4 := m4.old B161
            have m5 := m5.old B161
            have h26 := h26.below B161
            have h27 := h27.below B161
            have m7 := m7.old B161
            have m8 := m8.old B161
            have hS := hS.below B161
            have h30 := h30n.valid
            have h130 := h30n.rs.one1
            refine s_end ⟨hS, ?_⟩
            refine d_one 9 (some 32) (Go.Op.call (Go.Call.mk (Go.Callee.value (Go.Operand.func 32)) #[(Go.Operand.tmp 30), (Go.Operand.tmp 31)] #[24, 24])) (by kernel_rfl) (by kernel_rfl) fun ty pos af => ?_
            refine s_callR (R := fun u w' => ∃ z, u = lv z ∧ RSn w' (fun k => w160.heap.size ≤ k) (.mx (.mx r p) (q)) z) [_, _] hF (enters_of Try.func32 (by kernel_rfl) rfl) rfl (by decide) (Max32 (.mx r p) (q) t30 y w160 h30.rs (RS.below hB hq) brp.1 brp.2 bq.1 bq.2) ?_
            rintro _ w162 a ⟨t32, rfl, h32n⟩ B163 hF
            have sB163 := B163.size
            have hB := hB.trans (B163.mono hB.size)
            have m3 := m3.old B163
            have m4 := m4.old B163
            have m5 := m5.old B163
            have h26 := h26.below B163
            have h27 := h27.below B163
            have m7 := m7.old B163
            have m8 := m8.old B163
            have h30 := h30.below B163
            have hS := hS.below B163
            have h32 := h32n.valid
            have h132 := h32n.rs.one1
            refine s_end ⟨hS, ?_⟩
            refine d_one 12 none (Go.Op.store 24 (Go.Operand.tmp 7) (Go.Operand.tmp 27)) (by kernel_rfl) (by kernel_rfl) fun ty pos af => ?_
            refine s_putW hF rfl rfl (size_wide wide24) m7 rfl (one_lc h127) fun w164 m7 o165 => ?_
            have so165 := o165.size
            have hB := hB.trans (o165.below (by omega))
            have m3 := m3.only o165 (by omega)
            have m4 := m4.only o165 (by omega)
            have m5 := m5.only o165 (by omega)
            have h26 := h26.only o165 (fun k (hk : w32.heap.size ≤ k ∧ k < w78.heap.size) => by omega)
            have h27 := h27.only o165 (fun k (hk : w78.heap.size ≤ k ∧ k < w80.heap.size) => by omega)
            have m8 := m8.only o165 (by omega)
            have h30 := h30.only o165 (fun k (hk : w158.heap.size ≤ k ∧ k < w160.heap.size) => by omega)
            have h32 := h32.only o165 (fun k (hk : w160.heap.size ≤ k ∧ k < w162.heap.size) => by omega)
            have hS := hS.only o165 (by omega)
            refine s_end ⟨hS, ?_⟩
            refine d_one 13 none (Go.Op.store 24 (Go.Operand.tmp 8) (Go.Operand.tmp 32)) (by kernel_rfl) (by kernel_rfl) fun ty pos af => ?_
            refine s_putW hF rfl rfl (size_wide wide24) m8 rfl (one_lc h132) fun w166 m8 o167 => ?_
            have so167 := o167.size
            have hB := hB.trans (o167.below (by omega))
            have m3 := m3.only o167 (by omega)
            have m4 := m4.only o167 (by omega)
            have m5 := m5.only o167 (by omega)
            have h26 := h26.only o167 (fun k (hk : w32.heap.size ≤ k ∧ k < w78.heap.size) => by omega)
            have h27 := h27.only o167 (fun k (hk : w78.heap.size ≤ k ∧ k < w80.heap.size) => by omega)
            have m7 := m7.only o167 (by omega)
            have h30 := h30.only o167 (fun k (hk : w158.heap.size ≤ k ∧ k < w160.heap.size) => by omega)
            have h32 := h32.only o167 (fun k (hk : w160.heap.size ≤ k ∧ k < w162.heap.size) => by omega)
            have hS := hS.only o167 (by omega)
            refine s_end ⟨hS, ?_⟩
            refine d_end (by kernel_rfl) ?_
            exact key11 _ _ _ _ _ _ hB m3 m4 m5 m7 m8 h27.rs h32.rs (hF.sub _ rfl)
        · refine d_op 11 (some 8) (Go.Op.alloc 24) (by kernel_rfl) fun ty pos af => ?_
          refine s_alloc hF (by decide) zero24 fun w168 b8 a eb8 m8 B169 zb8 hF => ?_
          have sB169 := B169.size
          have hB := hB.trans (B169.mono hB.size)
          have m3 := m3.old B169
          have m4 := m4.old B169
          have m5 := m5.old B169
          have h26 := h26.below B169
          have h27 := h27.below B169
          have hS := hS.below B169
          refine s_end ⟨hS, ?_⟩
          refine d_two 7 10 (by kernel_rfl) ?_ ?_
          · refine d_op 7 (some 30) (Go.Op.call (Go.Call.mk (Go.Callee.value (Go.Operand.func 32)) #[(Go.Operand.tmp 28), (Go.Operand.tmp 29)] #[24, 24])) (by kernel_rfl) fun ty pos af => ?_
            refine s_callR (R := fun u w' => ∃ z, u = lv z ∧ RSn w' (fun k => w168.heap.size ≤ k) (.mx (r) (p)) z) [_, _] hF (enters_of Try.func32 (by kernel_rfl) rfl) rfl (by decide) (Max32 (r) (p) z x w168 (RS.below hB hr) (RS.below hB hp) br.1 br.2 bp.1 bp.2) ?_
            rintro _ w170 a ⟨t30, rfl, h30n⟩ B171 hF
            have sB171 := B171.size
            have hB := hB.trans (B171.mono hB.size)
            have m3 := m3.old B171
            have m4 := m4.old B171
            have m5 := m5.old B171
            have h26 := h26.below B171
            have h27 := h27.below B171
            have m8 := m8.old B171
            have hS := hS.below B171
            have h30 := h30n.valid
            have h130 := h30n.rs.one1
            refine s_end ⟨hS, ?_⟩
            refine d_two 9 10 (by kernel_rfl) ?_ ?_
            · refine d_op 9 (some 32) (Go.Op.call (Go.Call.mk (Go.Callee.value (Go.Operand.func 32)) #[(Go.Operand.tmp 30), (Go.Operand.tmp 31)] #[24, 24])) (by kernel_rfl) fun ty pos af => ?_
              refine s_callR (R := fun u w' => ∃ z, u = lv z ∧ RSn w' (fun k => w170.heap.size ≤ k) (.mx (.mx r p) (q)) z) [_, _] hF (enters_of Try.func32 (by kernel_rfl) rfl) rfl (by decide) (Max32 (.mx r p) (q) t30 y w170 h30.rs (RS.below hB hq) brp.1 brp.2 bq.1 bq.2) ?_
              rintro _ w172 a ⟨t32, rfl, h32n⟩ B173 hF
              have sB173 := B173.size
              have hB := hB.trans (B173.mono hB.size)
              have m3 := m3.old B173
              have m4 := m4.old B173
              have m5 := m5.old B173
              have h26 := h26.below B173
              have h27 := h27.below B173
              have m8 := m8.old B173
              have h30 := h30.below B173
              have hS := hS.below B173
              have h32 := h32n.valid
              have h132 := h32n.rs.one1
              refine s_end ⟨hS, ?_⟩
              refine d_one 10 (some 7) (Go.Op.alloc 24) (by kernel_rfl) (by kernel_rfl) fun ty pos af => ?_
              refine s_alloc hF (by decide) zero24 fun w174 b7 a eb7 m7 B175 zb7 hF => ?_
              have sB175 := B175.size
              have hB := hB.trans (B175.mono hB.size)
              have m3 := m3.old B175
              have m4 := m4.old B175
              have m5 := m5.old B175
              have h26 := h26.below B175
              have h27 := h27.below B175
              have m8 := m8.old B175
              have h30 := h30.below B175
              have h32 := h32.below B175
              have hS := hS.below B175
              refine s_end ⟨hS, ?_⟩
              refine d_one 12 none (Go.Op.store 24 (Go.Operand.tmp 7) (Go.Operand.tmp 27)) (by kernel_rfl) (by kernel_rfl) fun ty pos af => ?_
              refine s_putW hF rfl rfl (size_wide wide24) m7 rfl (one_lc h127) fun w176 m7 o177 => ?_
              have so177 := o177.size
              have hB := hB.trans (o177.below (by omega))
              have m3 := m3.only o177 (by omega)
              have m4 := m4.only o177 (by omega)
              have m5 := m5.only o177 (by omega)
              have h26 := h26.only o177 (fun k (hk : w32.heap.size ≤ k ∧ k < w78.heap.size) => by omega)
              have h27 := h27.only o177 (fun k (hk : w78.heap.size ≤ k ∧ k < w80.heap.size) => by omega)
              have m8 := m8.only o177 (by omega)
              have h30 := h30.only o177 (fun k (hk : w168.heap.size ≤ k ∧ k < w170.heap.size) => by omega)
              have h32 := h32.only o177 (fun k (hk : w170.heap.size ≤ k ∧ k < w172.heap.size) => by omega)
              have hS := hS.only o177 (by omega)
              refine s_end ⟨hS, ?_⟩
              refine d_one 13 none (Go.Op.store 24 (Go.Operand.tmp 8) (Go.Operand.tmp 32)) (by kernel_rfl) (by kernel_rfl) fun ty pos af => ?_
              refine s_putW hF rfl rfl (size_wide wide24) m8 rfl (one_lc h132) fun w178 m8 o179 => ?_
              have so179 := o179.size
              have hB := hB.trans (o179.below (by omega))
              have m3 := m3.only o179 (by omega)
              have m4 := m4.only o179 (by omega)
              have m5 := m5.only o179 (by omega)
              have h26 := h26.only o179 (fun k (hk : w32.heap.size ≤ k ∧ k < w78.heap.size) => by omega)
              have h27 := h27.only o179 (fun k (hk : w78.heap.size ≤ k ∧ k < w80.heap.size) => by omega)
              have h30 := h30.only o179 (fun k (hk : w168.heap.size ≤ k ∧ k < w170.heap.size) => by omega)
              have h32 := h32.only o179 (fun k (hk : w170.heap.size ≤ k ∧ k < w172.heap.size) => by omega)
              have m7 := m7.only o179 (by omega)
              have hS := hS.only o179 (by omega)
              refine s_end ⟨hS, ?_⟩
              refine d_end (by kernel_rfl) ?_
              exact key11 _ _ _ _ _ _ hB m3 m4 m5 m7 m8 h27.rs h32.rs (hF.sub _ rfl)
            · refine d_op 10 (some 7) (Go.Op.alloc 24) (by kernel_rfl) fun ty pos af => ?_
              refine s_alloc hF (by decide) zero24 fun w180 b7 a eb7 m7 B181 zb7 hF => ?_
              have sB181 := B181.size
              have hB := hB.trans (B181.mono hB.size)
              have m3 := m3.old B181
              have m4 := m4.old B181
              have m5 := m5.old B181
              have h26 := h26.below B181
              have h27 := h27.below B181
              have m8 := m8.old B181
              have h30 := h30.below B181
              have hS := hS.below B181
              refine s_end ⟨hS, ?_⟩
              refine d_one 9 (some 32) (Go.Op.call (Go.Call.mk (Go.Callee.value (Go.Operand.func 32)) #[(Go.Operand.tmp 30), (Go.Operand.tmp 31)] #[24, 24])) (by kernel_rfl) (by kernel_rfl) fun ty pos af => ?_
              refine s_callR (R := fun u w' => ∃ z, u = lv z ∧ RSn w' (fun k => w180.heap.size ≤ k) (.mx (.mx r p) (q)) z) [_, _] hF (enters_of Try.func32 (by kernel_rfl) rfl) rfl (by decide) (Max32 (.mx r p) (q) t30 y w180 h30.rs (RS.below hB hq) brp.1 brp.2 bq.1 bq.2) ?_
              rintro _ w182 a ⟨t32, rfl, h32n⟩ B183 hF
              have sB183 := B183.size
              have hB := hB.trans (B183.mono hB.size)
              have m3 := m3.old B183
              have m4 := m4.old B183
              have m5 := m5.old B183
              have h26 := h26.below B183
              have h27 := h27.below B183
              have m8 := m8.old B183
              have h30 := h30.below B183
              have m7 := m7.old B183
              have hS := hS.below B183
              have h32 := h32n.valid
              have h132 := h32n.rs.one1
              refine s_end ⟨hS, ?_⟩
              refine d_one 12 none (Go.Op.store 24 (Go.Operand.tmp 7) (Go.Operand.tmp 27)) (by kernel_rfl) (by kernel_rfl) fun ty pos af => ?_
              refine s_putW hF rfl rfl (size_wide wide24) m7 rfl (one_lc h127) fun w184 m7 o185 => ?_
              have so185 := o185.size
              have hB := hB.trans (o185.below (by omega))
              have m3 := m3.only o185 (by omega)
              have m4 := m4.only o185 (by omega)
              have m5 := m5.only o185 (by omega)
              have h26 := h26.only o185 (fun k (hk : w32.heap.size ≤ k ∧ k < w78.heap.size) => by omega)
              have h27 := h27.only o185 (fun k (hk : w78.heap.size ≤ k ∧ k < w80.heap.size) => by omega)
              have m8 := m8.only o185 (by omega)
              have h30 := h30.only o185 (fun k (hk : w168.heap.size ≤ k ∧ k < w170.heap.size) => by omega)
              have h32 := h32.only o185 (fun k (hk : w180.heap.size ≤ k ∧ k < w182.heap.size) => by omega)
              have hS := hS.only o185 (by omega)
              refine s_end ⟨hS, ?_⟩
              refine d_one 13 none (Go.Op.store 24 (Go.Operand.tmp 8) (Go.Operand.tmp 32)) (by kernel_rfl) (by kernel_rfl) fun ty pos af => ?_
              refine s_putW hF rfl rfl (size_wide wide24) m8 rfl (one_lc h132) fun w186 m8 o187 => ?_
              have so187 := o187.size
              have hB := hB.trans (o187.below (by omega))
              have m3 := m3.only o187 (by omega)
              have m4 := m4.only o187 (by omega)
              have m5 := m5.only o187 (by omega)
              have h26 := h26.only o187 (fun k (hk : w32.heap.size ≤ k ∧ k < w78.heap.size) => by omega)
              have h27 := h27.only o187 (fun k (hk : w78.heap.size ≤ k ∧ k < w80.heap.size) => by omega)
              have h30 := h30.only o187 (fun k (hk : w168.heap.size ≤ k ∧ k < w170.heap.size) => by omega)
              have m7 := m7.only o187 (by omega)
              have h32 := h32.only o187 (fun k (hk : w180.heap.size ≤ k ∧ k < w182.heap.size) => by omega)
              have hS := hS.only o187 (by omega)
              refine s_end ⟨hS, ?_⟩
              refine d_end (by kernel_rfl) ?_
              exact key11 _ _ _ _ _ _ hB m3 m4 m5 m7 m8 h27.rs h32.rs (hF.sub _ rfl)
          · refine d_op 10 (some 7) (Go.Op.alloc 24) (by kernel_rfl) fun ty pos af => ?_
            refine s_alloc hF (by decide) zero24 fun w188 b7 a eb7 m7 B189 zb7 hF => ?_
            have sB189 := B189.size
            have hB := hB.trans (B189.mono hB.size)
            have m3 := m3.old B189
            have m4 := m4.old B189
            have m5 := m5.old B189
            have h26 := h26.below B189
            have h27 := h27.below B189
            have m8 := m8.old B189
            have hS := hS.below B189
            refine s_end ⟨hS, ?_⟩
            refine d_one 7 (some 30) (Go.Op.call (Go.Call.mk (Go.Callee.value (Go.Operand.func 32)) #[(Go.Operand.tmp 28), (Go.Operand.tmp 29)] #[24, 24])) (by kernel_rfl) (by kernel_rfl) fun ty pos af => ?_
            refine s_callR (R := fun u w' => ∃ z, u = lv z ∧ RSn w' (fun k => w188.heap.size ≤ k) (.mx (r) (p)) z) [_, _] hF (enters_of Try.func32 (by kernel_rfl) rfl) rfl (by decide) (Max32 (r) (p) z x w188 (RS.below hB hr) (RS.below hB hp) br.1 br.2 bp.1 bp.2) ?_
            rintro _ w190 a ⟨t30, rfl, h30n⟩ B191 hF
            have sB191 := B191.size
            have hB := hB.trans (B191.mono hB.size)
            have m3 := m3.old B191
            have m4 := m4.old B191
            have m5 := m5.old B191
            have h26 := h26.below B191
            have h27 := h27.below B191
            have m8 := m8.old B191
            have m7 := m7.old B191
            have hS := hS.below B191
            have h30 := h30n.valid
            have h130 := h30n.rs.one1
            refine s_end ⟨hS, ?_⟩
            refine d_one 9 (some 32) (Go.Op.call (Go.Call.mk (Go.Callee.value (Go.Operand.func 32)) #[(Go.Operand.tmp 30), (Go.Operand.tmp 31)] #[24, 24])) (by kernel_rfl) (by kernel_rfl) fun ty pos af => ?_
            refine s_callR (R := fun u w' => ∃ z, u = lv z ∧ RSn w' (fun k => w190.heap.size ≤ k) (.mx (.mx r p) (q)) z) [_, _] hF (enters_of Try.func32 (by kernel_rfl) rfl) rfl (by decide) (Max32 (.mx r p) (q) t30 y w190 h30.rs (RS.below hB hq) brp.1 brp.2 bq.1 bq.2) ?_
            rintro _ w192 a ⟨t32, rfl, h32n⟩ B193 hF
            have sB193 := B193.size
            have hB := hB.trans (B193.mono hB.size)
            have m3 := m3.old B193
            have m4 := m4.old B193
            have m5 := m5.old B193
            have h26 := h26.below B193
            have h27 := h27.below B193
            have m8 := m8.old B193
            have m7 := m7.old B193
            have h30 := h30.below B193
            have hS := hS.below B193
            have h32 := h32n.valid
            have h132 := h32n.rs.one1
            refine s_end ⟨hS, ?_⟩
            refine d_one 12 none (Go.Op.store 24 (Go.Operand.tmp 7) (Go.Operand.tmp 27)) (by kernel_rfl) (by kernel_rfl) fun ty pos af => ?_
            refine s_putW hF rfl rfl (size_wide wide24) m7 rfl (one_lc h127) fun w194 m7 o195 => ?_
            have so195 := o195.size
            have hB := hB.trans (o195.below (by omega))
            have m3 := m3.only o195 (by omega)
            have m4 := m4.only o195 (by omega)
            have m5 := m5.only o195 (by omega)
            have h26 := h26.only o195 (fun k (hk : w32.heap.size ≤ k ∧ k < w78.heap.size) => by omega)
            have h27 := h27.only o195 (fun k (hk : w78.heap.size ≤ k ∧ k < w80.heap.size) => by omega)
            have m8 := m8.only o195 (by omega)
            have h30 := h30.only o195 (fun k (hk : w188.heap.size ≤ k ∧ k < w190.heap.size) => by omega)
            have h32 := h32.only o195 (fun k (hk : w190.heap.size ≤ k ∧ k < w192.heap.size) => by omega)
            have hS := hS.only o195 (by omega)
            refine s_end ⟨hS, ?_⟩
            refine d_one 13 none (Go.Op.store 24 (Go.Operand.tmp 8) (Go.Operand.tmp 32)) (by kernel_rfl) (by kernel_rfl) fun ty pos af => ?_
            refine s_putW hF rfl rfl (size_wide wide24) m8 rfl (one_lc h132) fun w196 m8 o197 => ?_
            have so197 := o197.size
            have hB := hB.trans (o197.below (by omega))
            have m3 := m3.only o197 (by omega)
            have m4 := m4.only o197 (by omega)
            have m5 := m5.only o197 (by omega)
            have h26 := h26.only o197 (fun k (hk : w32.heap.size ≤ k ∧ k < w78.heap.size) => by omega)
            have h27 := h27.only o197 (fun k (hk : w78.heap.size ≤ k ∧ k < w80.heap.size) => by omega)
            have m7 := m7.only o197 (by omega)
            have h30 := h30.only o197 (fun k (hk : w188.heap.size ≤ k ∧ k < w190.heap.size) => by omega)
            have h32 := h32.only o197 (fun k (hk : w190.heap.size ≤ k ∧ k < w192.heap.size) => by omega)
            have hS := hS.only o197 (by omega)
            refine s_end ⟨hS, ?_⟩
            refine d_end (by kernel_rfl) ?_
            exact key11 _ _ _ _ _ _ hB m3 m4 m5 m7 m8 h27.rs h32.rs (hF.sub _ rfl)
      · refine d_op 10 (some 7) (Go.Op.alloc 24) (by kernel_rfl) fun ty pos af => ?_
        refine s_alloc hF (by decide) zero24 fun w198 b7 a eb7 m7 B199 zb7 hF => ?_
        have sB199 := B199.size
        have hB := hB.trans (B199.mono hB.size)
        have m3 := m3.old B199
        have m4 := m4.old B199
        have m5 := m5.old B199
        have h26 := h26.below B199
        have hS := hS.below B199
        refine s_end ⟨hS, ?_⟩
        refine d_two 4 11 (by kernel_rfl) ?_ ?_
        · refine d_op 4 (some 27) (Go.Op.call (Go.Call.mk (Go.Callee.value (Go.Operand.func 32)) #[(Go.Operand.tmp 23), (Go.Operand.tmp 26)] #[24, 24])) (by kernel_rfl) fun ty pos af => ?_
          refine s_callR (R := fun u w' => ∃ z, u = lv z ∧ RSn w' (fun k => w198.heap.size ≤ k) (.mx (p) (.mx q r)) z) [_, _] hF (enters_of Try.func32 (by kernel_rfl) rfl) rfl (by decide) (Max32 (p) (.mx q r) x t26 w198 (RS.below hB hp) h26.rs bp.1 bp.2 bqr.1 bqr.2) ?_
          rintro _ w200 a ⟨t27, rfl, h27n⟩ B201 hF
          have sB201 := B201.size
          have hB := hB.trans (B201.mono hB.size)
          have m3 := m3.old B201
          have m4 := m4.old B201
          have m5 := m5.old B201
          have h26 := h26.below B201
          have m7 := m7.old B201
          have hS := hS.below B201
          have h27 := h27n.valid
          have h127 := h27n.rs.one1
          refine s_end ⟨hS, ?_⟩
          refine d_two 7 11 (by kernel_rfl) ?_ ?_
          · refine d_op 7 (some 30) (Go.Op.call (Go.Call.mk (Go.Callee.value (Go.Operand.func 32)) #[(Go.Operand.tmp 28), (Go.Operand.tmp 29)] #[24, 24])) (by kernel_rfl) fun ty pos af => ?_
            refine s_callR (R := fun u w' => ∃ z, u = lv z ∧ RSn w' (fun k => w200.heap.size ≤ k) (.mx (r) (p)) z) [_, _] hF (enters_of Try.func32 (by kernel_rfl) rfl) rfl (by decide) (Max32 (r) (p) z x w200 (RS.below hB hr) (RS.below hB hp) br.1 br.2 bp.1 bp.2) ?_
            rintro _ w202 a ⟨t30, rfl, h30n⟩ B203 hF
            have sB203 := B203.size
            have hB := hB.trans (B203.mono hB.size)
            have m3 := m3.old B203
            have m4 := m4.old B203
            have m5 := m5.old B203
            have h26 := h26.below B203
            have m7 := m7.old B203
            have h27 := h27.below B203
            have hS := hS.below B203
            have h30 := h30n.valid
            have h130 := h30n.rs.one1
            refine s_end ⟨hS, ?_⟩
            refine d_two 9 11 (by kernel_rfl) ?_ ?_
            · refine d_op 9 (some 32) (Go.Op.call (Go.Call.mk (Go.Callee.value (Go.Operand.func 32)) #[(Go.Operand.tmp 30), (Go.Operand.tmp 31)] #[24, 24])) (by kernel_rfl) fun ty pos af => ?_
              refine s_callR (R := fun u w' => ∃ z, u = lv z ∧ RSn w' (fun k => w202.heap.size ≤ k) (.mx (.mx r p) (q)) z) [_, _] hF (enters_of Try.func32 (by kernel_rfl) rfl) rfl (by decide) (Max32 (.mx r p) (q) t30 y w202 h30.rs (RS.below hB hq) brp.1 brp.2 bq.1 bq.2) ?_
              rintro _ w204 a ⟨t32, rfl, h32n⟩ B205 hF
              have sB205 := B205.size
              have hB := hB.trans (B205.mono hB.size)
              have m3 := m3.old B205
              have m4 := m4.old B205
              have m5 := m5.old B205
              have h26 := h26.below B205
              have m7 := m7.old B205
              have h27 := h27.below B205
              have h30 := h30.below B205
              have hS := hS.below B205
              have h32 := h32n.valid
              have h132 := h32n.rs.one1
              refine s_end ⟨hS, ?_⟩
              refine d_one 11 (some 8) (Go.Op.alloc 24) (by kernel_rfl) (by kernel_rfl) fun ty pos af => ?_
              refine s_alloc hF (by decide) zero24 fun w206 b8 a eb8 m8 B207 zb8 hF => ?_
              have sB207 := B207.size
              have hB := hB.trans (B207.mono hB.size)
              have m3 := m3.old B207
              have m4 := m4.old B207
              have m5 := m5.old B207
              have h26 := h26.below B207
              have m7 := m7.old B207
              have h27 := h27.below B207
              have h30 := h30.below B207
              have h32 := h32.below B207
              have hS := hS.below B207
              refine s_end ⟨hS, ?_⟩
              refine d_one 12 none (Go.Op.store 24 (Go.Operand.tmp 7) (Go.Operand.tmp 27)) (by kernel_rfl) (by kernel_rfl) fun ty pos af => ?_
              refine s_putW hF rfl rfl (size_wide wide24) m7 rfl (one_lc h127) fun w208 m7 o209 => ?_
              have so209 := o209.size
              have hB := hB.trans (o209.below (by omega))
              have m3 := m3.only o209 (by omega)
              have m4 := m4.only o209 (by omega)
              have m5 := m5.only o209 (by omega)
              have h26 := h26.only o209 (fun k (hk : w32.heap.size ≤ k ∧ k < w78.heap.size) => by omega)
              have h27 := h27.only o209 (fun k (hk : w198.heap.size ≤ k ∧ k < w200.heap.size) => by omega)
              have h30 := h30.only o209 (fun k (hk : w200.heap.size ≤ k ∧ k < w202.heap.size) => by omega)
              have h32 := h32.only o209 (fun k (hk : w202.heap.size ≤ k ∧ k < w204.heap.size) => by omega)
              have m8 := m8.only o209 (by omega)
              have hS := hS.only o209 (by omega)
              refine s_end ⟨hS, ?_⟩
              refine d_one 13 none (Go.Op.store 24 (Go.Operand.tmp 8) (Go.Operand.tmp 32)) (by kernel_rfl) (by kernel_rfl) fun ty pos af => ?_
              refine s_putW hF rfl rfl (size_wide wide24) m8 rfl (one_lc h132) fun w210 m8 o211 => ?_
              have so211 := o211.size
              have hB := hB.trans (o211.below (by omega))
              have m3 := m3.only o211 (by omega)
              have m4 := m4.only o211 (by omega)
              have m5 := m5.only o211 (by omega)
              have h26 := h26.only o211 (fun k (hk : w32.heap.size ≤ k ∧ k < w78.heap.size) => by omega)
              have m7 := m7.only o211 (by omega)
              have h27 := h27.only o211 (fun k (hk : w198.heap.size ≤ k ∧ k < w200.heap.size) => by omega)
              have h30 := h30.only o211 (fun k (hk : w200.heap.size ≤ k ∧ k < w202.heap.size) => by omega)
              have h32 := h32.only o211 (fun k (hk : w202.heap.size ≤ k ∧ k < w204.heap.size) => by omega)
              have hS := hS.only o211 (by omega)
              refine s_end ⟨hS, ?_⟩
              refine d_end (by kernel_rfl) ?_
              exact key11 _ _ _ _ _ _ hB m3 m4 m5 m7 m8 h27.rs h32.rs (hF.sub _ rfl)
            · refine d_op 11 (some 8) (Go.Op.alloc 24) (by kernel_rfl) fun ty pos af => ?_
              refine s_alloc hF (by decide) zero24 fun w212 b8 a eb8 m8 B213 zb8 hF => ?_
              have sB213 := B213.size
              have hB := hB.trans (B213.mono hB.size)
              have m3 := m3.old B213
              have m4 := m4.old B213
              have m5 := m5.old B213
              have h26 := h26.below B213
              have m7 := m7.old B213
              have h27 := h27.below B213
              have h30 := h30.below B213
              have hS := hS.below B213
              refine s_end ⟨hS, ?_⟩
              refine d_one 9 (some 32) (Go.Op.call (Go.Call.mk (Go.Callee.value (Go.Operand.func 32)) #[(Go.Operand.tmp 30), (Go.Operand.tmp 31)] #[24, 24])) (by kernel_rfl) (by kernel_rfl) fun ty pos af => ?_
              refine s_callR (R := fun u w' => ∃ z, u = lv z ∧ RSn w' (fun k => w212.heap.size ≤ k) (.mx (.mx r p) (q)) z) [_, _] hF (enters_of Try.func32 (by kernel_rfl) rfl) rfl (by decide) (Max32 (.mx r p) (q) t30 y w212 h30.rs (RS.below hB hq) brp.1 brp.2 bq.1 bq.2) ?_
              rintro _ w214 a ⟨t32, rfl, h32n⟩ B215 hF
              have sB215 := B215.size
              have hB := hB.trans (B215.mono hB.size)
              have m3 := m3.old B215
              have m4 := m4.old B215
              have m5 := m5.old B215
              have h26 := h26.below B215
              have m7 := m7.old B215
              have h27 := h27.below B215
              have h30 := h30.below B215
              have m8 := m8.old B215
              have hS := hS.below B215
              have h32 := h32n.valid
              have h132 := h32n.rs.one1
              refine s_end ⟨hS, ?_⟩
              refine d_one 12 none (Go.Op.store 24 (Go.Operand.tmp 7) (Go.Operand.tmp 27)) (by kernel_rfl) (by kernel_rfl) fun ty pos af => ?_
              refine s_putW hF rfl rfl (size_wide wide24) m7 rfl (one_lc h127) fun w216 m7 o217 => ?_
              have so217 := o217.size
              have hB := hB.trans (o217.below (by omega))
              have m3 := m3.only o217 (by omega)
              have m4 := m4.only o217 (by omega)
              have m5 := m5.only o217 (by omega)
              have h26 := h26.only o217 (fun k (hk : w32.heap.size ≤ k ∧ k < w78.heap.size) => by omega)
              have h27 := h27.only o217 (fun k (hk : w198.heap.size ≤ k ∧ k < w200.heap.size) => by omega)
              have h30 := h30.only o217 (fun k (hk : w200.heap.size ≤ k ∧ k < w202.heap.size) => by omega)
              have m8 := m8.only o217 (by omega)
              have h32 := h32.only o217 (fun k (hk : w212.heap.size ≤ k ∧ k < w214.heap.size) => by omega)
              have hS := hS.only o217 (by omega)
              refine s_end ⟨hS, ?_⟩
              refine d_one 13 none (Go.Op.store 24 (Go.Operand.tmp 8) (Go.Operand.tmp 32)) (by kernel_rfl) (by kernel_rfl) fun ty pos af => ?_
              refine s_putW hF rfl rfl (size_wide wide24) m8 rfl (one_lc h132) fun w218 m8 o219 => ?_
              have so219 := o219.size
              have hB := hB.trans (o219.below (by omega))
              have m3 := m3.only o219 (by omega)
              have m4 := m4.only o219 (by omega)
              have m5 := m5.only o219 (by omega)
              have h26 := h26.only o219 (fun k (hk : w32.heap.size ≤ k ∧ k < w78.heap.size) => by omega)
              have m7 := m7.only o219 (by omega)
              have h27 := h27.only o219 (fun k (hk : w198.heap.size ≤ k ∧ k < w200.heap.size) => by omega)
              have h30 := h30.only o219 (fun k (hk : w200.heap.size ≤ k ∧ k < w202.heap.size) => by omega)
              have h32 := h32.only o219 (fun k (hk : w212.heap.size ≤ k ∧ k < w214.heap.size) => by omega)
              have hS := hS.only o219 (by omega)
              refine s_end ⟨hS, ?_⟩
              refine d_end (by kernel_rfl) ?_
              exact key11 _ _ _ _ _ _ hB m3 m4 m5 m7 m8 h27.rs h32.rs (hF.sub _ rfl)
          · refine d_op 11 (some 8) (Go.Op.alloc 24) (by kernel_rfl) fun ty pos af => ?_
            refine s_alloc hF (by decide) zero24 fun w220 b8 a eb8 m8 B221 zb8 hF => ?_
            have sB221 := B221.size
            have hB := hB.trans (B221.mono hB.size)
            have m3 := m3.old B221
            have m4 := m4.old B221
            have m5 := m5.old B221
            have h26 := h26.below B221
            have m7 := m7.old B221
            have h27 := h27.below B221
            have hS := hS.below B221
            refine s_end ⟨hS, ?_⟩
            refine d_one 7 (some 30) (Go.Op.call (Go.Call.mk (Go.Callee.value (Go.Operand.func 32)) #[(Go.Operand.tmp 28), (Go.Operand.tmp 29)] #[24, 24])) (by kernel_rfl) (by kernel_rfl) fun ty pos af => ?_
            refine s_callR (R := fun u w' => ∃ z, u = lv z ∧ RSn w' (fun k => w220.heap.size ≤ k) (.mx (r) (p)) z) [_, _] hF (enters_of Try.func32 (by kernel_rfl) rfl) rfl (by decide) (Max32 (r) (p) z x w220 (RS.below hB hr) (RS.below hB hp) br.1 br.2 bp.1 bp.2) ?_
            rintro _ w222 a ⟨t30, rfl, h30n⟩ B223 hF
            have sB223 := B223.size
            have hB := hB.trans (B223.mono hB.size)
            have m3 := m3.old B223
            have m4 := m4.old B223
            have m5 := m5.old B223
            have h26 := h26.below B223
            have m7 := m7.old B223
            have h27 := h27.below B223
            have m8 := m8.old B223
            have hS := hS.below B223
            have h30 := h30n.valid
            have h130 := h30n.rs.one1
            refine s_end ⟨hS, ?_⟩
            refine d_one 9 (some 32) (Go.Op.call (Go.Call.mk (Go.Callee.value (Go.Operand.func 32)) #[(Go.Operand.tmp 30), (Go.Operand.tmp 31)] #[24, 24])) (by kernel_rfl) (by kernel_rfl) fun ty pos af => ?_
            refine s_callR (R := fun u w' => ∃ z, u = lv z ∧ RSn w' (fun k => w222.heap.size ≤ k) (.mx (.mx r p) (q)) z) [_, _] hF (enters_of Try.func32 (by kernel_rfl) rfl) rfl (by decide) (Max32 (.mx r p) (q) t30 y w222 h30.rs (RS.below hB hq) brp.1 brp.2 bq.1 bq.2) ?_
            rintro _ w224 a ⟨t32, rfl, h32n⟩ B225 hF
            have sB225 := B225.size
            have hB := hB.trans (B225.mono hB.size)
            have m3 := m3.old B225
            have m4 := m4.old B225
            have m5 := m5.old B225
            have h26 := h26.below B225
            have m7 := m7.old B225
            have h27 := h27.below B225
            have m8 := m8.old B225
            have h30 := h30.below B225
            have hS := hS.below B225
            have h32 := h32n.valid
            have h132 := h32n.rs.one1
            refine s_end ⟨hS, ?_⟩
            refine d_one 12 none (Go.Op.store 24 (Go.Operand.tmp 7) (Go.Operand.tmp 27)) (by kernel_rfl) (by kernel_rfl) fun ty pos af => ?_
            refine s_putW hF rfl rfl (size_wide wide24) m7 rfl (one_lc h127) fun w226 m7 o227 => ?_
            have so227 := o227.size
            have hB := hB.trans (o227.below (by omega))
            have m3 := m3.only o227 (by omega)
            have m4 := m4.only o227 (by omega)
            have m5 := m5.only o227 (by omega)
            have h26 := h26.only o227 (fun k (hk : w32.heap.size ≤ k ∧ k < w78.heap.size) => by omega)
            have h27 := h27.only o227 (fun k (hk : w198.heap.size ≤ k ∧ k < w200.heap.size) => by omega)
            have m8 := m8.only o227 (by omega)
            have h30 := h30.only o227 (fun k (hk : w220.heap.size ≤ k ∧ k < w222.heap.size) => by omega)
            have h32 := h32.only o227 (fun k (hk : w222.heap.size ≤ k ∧ k < w224.heap.size) => by omega)
            have hS := hS.only o227 (by omega)
            refine s_end ⟨hS, ?_⟩
            refine d_one 13 none (Go.Op.store 24 (Go.Operand.tmp 8) (Go.Operand.tmp 32)) (by kernel_rfl) (by kernel_rfl) fun ty pos af => ?_
            refine s_putW hF rfl rfl (size_wide wide24) m8 rfl (one_lc h132) fun w228 m8 o229 => ?_
            have so229 := o229.size
            have hB := hB.trans (o229.below (by omega))
            have m3 := m3.only o229 (by omega)
            have m4 := m4.only o229 (by omega)
            have m5 := m5.only o229 (by omega)
            have h26 := h26.only o229 (fun k (hk : w32.heap.size ≤ k ∧ k < w78.heap.size) => by omega)
            have m7 := m7.only o229 (by omega)
            have h27 := h27.only o229 (fun k (hk : w198.heap.size ≤ k ∧ k < w200.heap.size) => by omega)
            have h30 := h30.only o229 (fun k (hk : w220.heap.size ≤ k ∧ k < w222.heap.size) => by omega)
            have h32 := h32.only o229 (fun k (hk : w222.heap.size ≤ k ∧ k < w224.heap.size) => by omega)
            have hS := hS.only o229 (by omega)
            refine s_end ⟨hS, ?_⟩
            refine d_end (by kernel_rfl) ?_
            exact key11 _ _ _ _ _ _ hB m3 m4 m5 m7 m8 h27.rs h32.rs (hF.sub _ rfl)
        · refine d_op 11 (some 8) (Go.Op.alloc 24) (by kernel_rfl) fun ty pos af => ?_
          refine s_alloc hF (by decide) zero24 fun w230 b8 a eb8 m8 B231 zb8 hF => ?_
          have sB231 := B231.size
          have hB := hB.trans (B231.mono hB.size)
          have m3 := m3.old B231
          have m4 := m4.old B231
          have m5 := m5.old B231
          have h26 := h26.below B231
          have m7 := m7.old B231
          have hS := hS.below B231
          refine s_end ⟨hS, ?_⟩
          refine d_one 4 (some 27) (Go.Op.call (Go.Call.mk (Go.Callee.value (Go.Operand.func 32)) #[(Go.Operand.tmp 23), (Go.Operand.tmp 26)] #[24, 24])) (by kernel_rfl) (by kernel_rfl) fun ty pos af => ?_
          refine s_callR (R := fun u w' => ∃ z, u = lv z ∧ RSn w' (fun k => w230.heap.size ≤ k) (.mx (p) (.mx q r)) z) [_, _] hF (enters_of Try.func32 (by kernel_rfl) rfl) rfl (by decide) (Max32 (p) (.mx q r) x t26 w230 (RS.below hB hp) h26.rs bp.1 bp.2 bqr.1 bqr.2) ?_
          rintro _ w232 a ⟨t27, rfl, h27n⟩ B233 hF
          have sB233 := B233.size
          have hB := hB.trans (B233.mono hB.size)
          have m3 := m3.old B233
          have m4 := m4.old B233
          have m5 := m5.old B233
          have h26 := h26.below B233
          have m7 := m7.old B233
          have m8 := m8.old B233
          have hS := hS.below B233
          have h27 := h27n.valid
          have h127 := h27n.rs.one1
          refine s_end ⟨hS, ?_⟩
          refine d_one 7 (some 30) (Go.Op.call (Go.Call.mk (Go.Callee.value (Go.Operand.func 32)) #[(Go.Operand.tmp 28), (Go.Operand.tmp 29)] #[24, 24])) (by kernel_rfl) (by kernel_rfl) fun ty pos af => ?_
          refine s_callR (R := fun u w' => ∃ z, u = lv z ∧ RSn w' (fun k => w232.heap.size ≤ k) (.mx (r) (p)) z) [_, _] hF (enters_of Try.func32 (by kernel_rfl) rfl) rfl (by decide) (Max32 (r) (p) z x w232 (RS.below hB hr) (RS.below hB hp) br.1 br.2 bp.1 bp.2) ?_
          rintro _ w234 a ⟨t30, rfl, h30n⟩ B235 hF
          have sB235 := B235.size
          have hB := hB.trans (B235.mono hB.size)
          have m3 := m3.old B235
          have m4 := m4.old B235
          have m5 := m5.old B235
          have h26 := h26.below B235
          have m7 := m7.old B235
          have m8 := m8.old B235
          have h27 := h27.below B235
          have hS := hS.below B235
          have h30 := h30n.valid
          have h130 := h30n.rs.one1
          refine s_end ⟨hS, ?_⟩
          refine d_one 9 (some 32) (Go.Op.call (Go.Call.mk (Go.Callee.value (Go.Operand.func 32)) #[(Go.Operand.tmp 30), (Go.Operand.tmp 31)] #[24, 24])) (by kernel_rfl) (by kernel_rfl) fun ty pos af => ?_
          refine s_callR (R := fun u w' => ∃ z, u = lv z ∧ RSn w' (fun k => w234.heap.size ≤ k) (.mx (.mx r p) (q)) z) [_, _] hF (enters_of Try.func32 (by kernel_rfl) rfl) rfl (by decide) (Max32 (.mx r p) (q) t30 y w234 h30.rs (RS.below hB hq) brp.1 brp.2 bq.1 bq.2) ?_
          rintro _ w236 a ⟨t32, rfl, h32n⟩ B237 hF
          have sB237 := B237.size
          have hB := hB.trans (B237.mono hB.size)
          have m3 := m3.old B237
          have m4 := m4.old B237
          have m5 := m5.old B237
          have h26 := h26.below B237
          have m7 := m7.old B237
          have m8 := m8.old B237
          have h27 := h27.below B237
          have h30 := h30.below B237
          have hS := hS.below B237
          have h32 := h32n.valid
          have h132 := h32n.rs.one1
          refine s_end ⟨hS, ?_⟩
          refine d_one 12 none (Go.Op.store 24 (Go.Operand.tmp 7) (Go.Operand.tmp 27)) (by kernel_rfl) (by kernel_rfl) fun ty pos af => ?_
          refine s_putW hF rfl rfl (size_wide wide24) m7 rfl (one_lc h127) fun w238 m7 o239 => ?_
          have so239 := o239.size
          have hB := hB.trans (o239.below (by omega))
          have m3 := m3.only o239 (by omega)
          have m4 := m4.only o239 (by omega)
          have m5 := m5.only o239 (by omega)
          have h26 := h26.only o239 (fun k (hk : w32.heap.size ≤ k ∧ k < w78.heap.size) => by omega)
          have m8 := m8.only o239 (by omega)
          have h27 := h27.only o239 (fun k (hk : w230.heap.size ≤ k ∧ k < w232.heap.size) => by omega)
          have h30 := h30.only o239 (fun k (hk : w232.heap.size ≤ k ∧ k < w234.heap.size) => by omega)
          have h32 := h32.only o239 (fun k (hk : w234.heap.size ≤ k ∧ k < w236.heap.size) => by omega)
          have hS := hS.only o239 (by omega)
          refine s_end ⟨hS, ?_⟩
          refine d_one 13 none (Go.Op.store 24 (Go.Operand.tmp 8) (Go.Operand.tmp 32)) (by kernel_rfl) (by kernel_rfl) fun ty pos af => ?_
          refine s_putW hF rfl rfl (size_wide wide24) m8 rfl (one_lc h132) fun w240 m8 o241 => ?_
          have so241 := o241.size
          have hB := hB.trans (o241.below (by omega))
          have m3 := m3.only o241 (by omega)
          have m4 := m4.only o241 (by omega)
          have m5 := m5.only o241 (by omega)
          have h26 := h26.only o241 (fun k (hk : w32.heap.size ≤ k ∧ k < w78.heap.size) => by omega)
          have m7 := m7.only o241 (by omega)
          have h27 := h27.only o241 (fun k (hk : w230.heap.size ≤ k ∧ k < w232.heap.size) => by omega)
          have h30 := h30.only o241 (fun k (hk : w232.heap.size ≤ k ∧ k < w234.heap.size) => by omega)
          have h32 := h32.only o241 (fun k (hk : w234.heap.size ≤ k ∧ k < w236.heap.size) => by omega)
          have hS := hS.only o241 (by omega)
          refine s_end ⟨hS, ?_⟩
          refine d_end (by kernel_rfl) ?_
          exact key11 _ _ _ _ _ _ hB m3 m4 m5 m7 m8 h27.rs h32.rs (hF.sub _ rfl)
      · refine d_op 11 (some 8) (Go.Op.alloc 24) (by kernel_rfl) fun ty pos af => ?_
        refine s_alloc hF (by decide) zero24 fun w242 b8 a eb8 m8 B243 zb8 hF => ?_
        have sB243 := B243.size
        have hB := hB.trans (B243.mono hB.size)
        have m3 := m3.old B243
        have m4 := m4.old B243
        have m5 := m5.old B243
        have h26 := h26.below B243
        have hS := hS.below B243
        refine s_end ⟨hS, ?_⟩
        refine d_two 4 10 (by kernel_rfl) ?_ ?_
        · refine d_op 4 (some 27) (Go.Op.call (Go.Call.mk (Go.Callee.value (Go.Operand.func 32)) #[(Go.Operand.tmp 23), (Go.Operand.tmp 26)] #[24, 24])) (by kernel_rfl) fun ty pos af => ?_
          refine s_callR (R := fun u w' => ∃ z, u = lv z ∧ RSn w' (fun k => w242.heap.size ≤ k) (.mx (p) (.mx q r)) z) [_, _] hF (enters_of Try.func32 (by kernel_rfl) rfl) rfl (by decide) (Max32 (p) (.mx q r) x t26 w242 (RS.below hB hp) h26.rs bp.1 bp.2 bqr.1 bqr.2) ?_
          rintro _ w244 a ⟨t27, rfl, h27n⟩ B245 hF
          have sB245 := B245.size
          have hB := hB.trans (B245.mono hB.size)
          have m3 := m3.old B245
          have m4 := m4.old B245
          have m5 := m5.old B245
          have h26 := h26.below B245
          have m8 := m8.old B245
          have hS := hS.below B245
          have h27 := h27n.valid
          have h127 := h27n.rs.one1
          refine s_end ⟨hS, ?_⟩
          refine d_two 7 10 (by kernel_rfl) ?_ ?_
          · refine d_op 7 (some 30) (Go.Op.call (Go.Call.mk (Go.Callee.value (Go.Operand.func 32)) #[(Go.Operand.tmp 28), (Go.Operand.tmp 29)] #[24, 24])) (by kernel_rfl) fun ty pos af => ?_
            refine s_callR (R := fun u w' => ∃ z, u = lv z ∧ RSn w' (fun k => w244.heap.size ≤ k) (.mx (r) (p)) z) [_, _] hF (enters_of Try.func32 (by kernel_rfl) rfl) rfl (by decide) (Max32 (r) (p) z x w244 (RS.below hB hr) (RS.below hB hp) br.1 br.2 bp.1 bp.2) ?_
            rintro _ w246 a ⟨t30, rfl, h30n⟩ B247 hF
            have sB247 := B247.size
            have hB := hB.trans (B247.mono hB.size)
            have m3 := m3.old B247
            have m4 := m4.old B247
            have m5 := m5.old B247
            have h26 := h26.below B247
            have m8 := m8.old B247
            have h27 := h27.below B247
            have hS := hS.below B247
            have h30 := h30n.valid
            have h130 := h30n.rs.one1
            refine s_end ⟨hS, ?_⟩
            refine d_two 9 10 (by kernel_rfl) ?_ ?_
            · refine d_op 9 (some 32) (Go.Op.call (Go.Call.mk (Go.Callee.value (Go.Operand.func 32)) #[(Go.Operand.tmp 30), (Go.Operand.tmp 31)] #[24, 24])) (by kernel_rfl) fun ty pos af => ?_
              refine s_callR (R := fun u w' => ∃ z, u = lv z ∧ RSn w' (fun k => w246.heap.size ≤ k) (.mx (.mx r p) (q)) z) [_, _] hF (enters_of Try.func32 (by kernel_rfl) rfl) rfl (by decide) (Max32 (.mx r p) (q) t30 y w246 h30.rs (RS.below hB hq) brp.1 brp.2 bq.1 bq.2) ?_
              rintro _ w248 a ⟨t32, rfl, h32n⟩ B249 hF
              have sB249 := B249.size
              have hB := hB.trans (B249.mono hB.size)
              have m3 := m3.old B249
              have m4 := m4.old B249
              have m5 := m5.old B249
              have h26 := h26.below B249
              have m8 := m8.old B249
              have h27 := h27.below B249
              have h30 := h30.below B249
              have hS := hS.below B249
              have h32 := h32n.valid
              have h132 := h32n.rs.one1
              refine s_end ⟨hS, ?_⟩
              refine d_one 10 (some 7) (Go.Op.alloc 24) (by kernel_rfl) (by kernel_rfl) fun ty pos af => ?_
              refine s_alloc hF (by decide) zero24 fun w250 b7 a eb7 m7 B251 zb7 hF => ?_
              have sB251 := B251.size
              have hB := hB.trans (B251.mono hB.size)
              have m3 := m3.old B251
              have m4 := m4.old B251
              have m5 := m5.old B251
              have h26 := h26.below B251
              have m8 := m8.old B251
              have h27 := h27.below B251
              have h30 := h30.below B251
              have h32 := h32.below B251
              have hS := hS.below B251
              refine s_end ⟨hS, ?_⟩
              refine d_one 12 none (Go.Op.store 24 (Go.Operand.tmp 7) (Go.Operand.tmp 27)) (by kernel_rfl) (by kernel_rfl) fun ty pos af => ?_
              refine s_putW hF rfl rfl (size_wide wide24) m7 rfl (one_lc h127) fun w252 m7 o253 => ?_
              have so253 := o253.size
              have hB := hB.trans (o253.below (by omega))
              have m3 := m3.only o253 (by omega)
              have m4 := m4.only o253 (by omega)
              have m5 := m5.only o253 (by omega)
              have h26 := h26.only o253 (fun k (hk : w32.heap.size ≤ k ∧ k < w78.heap.size) => by omega)
              have m8 := m8.only o253 (by omega)
              have h27 := h27.only o253 (fun k (hk : w242.heap.size ≤ k ∧ k < w244.heap.size) => by omega)
              have h30 := h30.only o253 (fun k (hk : w244.heap.size ≤ k ∧ k < w246.heap.size) => by omega)
              have h32 := h32.only o253 (fun k (hk : w246.heap.size ≤ k ∧ k < w248.heap.size) => by omega)
              have hS := hS.only o253 (by omega)
              refine s_end ⟨hS, ?_⟩
              refine d_one 13 none (Go.Op.store 24 (Go.Operand.tmp 8) (Go.Operand.tmp 32)) (by kernel_rfl) (by kernel_rfl) fun ty pos af => ?_
              refine s_putW hF rfl rfl (size_wide wide24) m8 rfl (one_lc h132) fun w254 m8 o255 => ?_
              have so255 := o255.size
              have hB := hB.trans (o255.below (by omega))
              have m3 := m3.only o255 (by omega)
              have m4 := m4.only o255 (by omega)
              have m5 := m5.only o255 (by omega)
              have h26 := h26.only o255 (fun k (hk : w32.heap.size ≤ k ∧ k < w78.heap.size) => by omega)
              have h27 := h27.only o255 (fun k (hk : w242.heap.size ≤ k ∧ k < w244.heap.size) => by omega)
              have h30 := h30.only o255 (fun k (hk : w244.heap.size ≤ k ∧ k < w246.heap.size) => by omega)
              have h32 := h32.only o255 (fun k (hk : w246.heap.size ≤ k ∧ k < w248.heap.size) => by omega)
              have m7 := m7.only o255 (by omega)
              have hS := hS.only o255 (by omega)
              refine s_end ⟨hS, ?_⟩
              refine d_end (by kernel_rfl) ?_
              exact key11 _ _ _ _ _ _ hB m3 m4 m5 m7 m8 h27.rs h32.rs (hF.sub _ rfl)
            · refine d_op 10 (some 7) (Go.Op.alloc 24) (by kernel_rfl) fun ty pos af => ?_
              refine s_alloc hF (by decide) zero24 fun w256 b7 a eb7 m7 B257 zb7 hF => ?_
              have sB257 := B257.size
              have hB := hB.trans (B257.mono hB.size)
              have m3 := m3.old B257
              have m4 := m4.old B257
              have m5 := m5.old B257
              have h26 := h26.below B257
              have m8 := m8.old B257
              have h27 := h27.below B257
              have h30 := h30.below B257
              have hS := hS.below B257
              refine s_end ⟨hS, ?_⟩
              refine d_one 9 (some 32) (Go.Op.call (Go.Call.mk (Go.Callee.value (Go.Operand.func 32)) #[(Go.Operand.tmp 30), (Go.Operand.tmp 31)] #[24, 24])) (by kernel_rfl) (by kernel_rfl) fun ty pos af => ?_
              refine s_callR (R := fun u w' => ∃ z, u = lv z ∧ RSn w' (fun k => w256.heap.size ≤ k) (.mx (.mx r p) (q)) z) [_, _] hF (enters_of Try.func32 (by kernel_rfl) rfl) rfl (by decide) (Max32 (.mx r p) (q) t30 y w256 h30.rs (RS.below hB hq) brp.1 brp.2 bq.1 bq.2) ?_
              rintro _ w258 a ⟨t32, rfl, h32n⟩ B259 hF
              have sB259 := B259.size
              have hB := hB.trans (B259.mono hB.size)
              have m3 := m3.old B259
              have m4 := m4.old B259
              have m5 := m5.old B259
              have h26 := h26.below B259
              have m8 := m8.old B259
              have h27 := h27.below B259
              have h30 := h30.below B259
              have m7 := m7.old B259
              have hS := hS.below B259
              have h32 := h32n.valid
              have h132 := h32n.rs.one1
              refine s_end ⟨hS, ?_⟩
              refine d_one 12 none (Go.Op.store 24 (Go.Operand.tmp 7) (Go.Operand.tmp 27)) (by kernel_rfl) (by kernel_rfl) fun ty pos af => ?_
              refine s_putW hF rfl rfl (size_wide wide24) m7 rfl (one_lc h127) fun w260 m7 o261 => ?_
              have so261 := o261.size
              have hB := hB.trans (o261.below (by omega))
              have m3 := m3.only o261 (by omega)
              have m4 := m4.only o261 (by omega)
              have m5 := m5.only o261 (by omega)
              have h26 := h26.only o261 (fun k (hk : w32.heap.size ≤ k ∧ k < w78.heap.size) => by omega)
              have m8 := m8.only o261 (by omega)
              have h27 := h27.only o261 (fun k (hk : w242.heap.size ≤ k ∧ k < w244.heap.size) => by omega)
              have h30 := h30.only o261 (fun k (hk : w244.heap.size ≤ k ∧ k < w246.heap.size) => by omega)
              have h32 := h32.only o261 (fun k (hk : w256.heap.size ≤ k ∧ k < w258.heap.size) => by omega)
              have hS := hS.only o261 (by omega)
              refine s_end ⟨hS, ?_⟩
              refine d_one 13 none (Go.Op.store 24 (Go.Operand.tmp 8) (Go.Operand.tmp 32)) (by kernel_rfl) (by kernel_rfl) fun ty pos af => ?_
              refine s_putW hF rfl rfl (size_wide wide24) m8 rfl (one_lc h132) fun w262 m8 o263 => ?_
              have so263 := o263.size
              have hB := hB.trans (o263.below (by omega))
              have m3 := m3.only o263 (by omega)
              have m4 := m4.only o263 (by omega)
              have m5 := m5.only o263 (by omega)
              have h26 := h26.only o263 (fun k (hk : w32.heap.size ≤ k ∧ k < w78.heap.size) => by omega)
              have h27 := h27.only o263 (fun k (hk : w242.heap.size ≤ k ∧ k < w244.heap.size) => by omega)
              have h30 := h30.only o263 (fun k (hk : w244.heap.size ≤ k ∧ k < w246.heap.size) => by omega)
              have m7 := m7.only o263 (by omega)
              have h32 := h32.only o263 (fun k (hk : w256.heap.size ≤ k ∧ k < w258.heap.size) => by omega)
              have hS := hS.only o263 (by omega)
              refine s_end ⟨hS, ?_⟩
              refine d_end (by kernel_rfl) ?_
              exact key11 _ _ _ _ _ _ hB m3 m4 m5 m7 m8 h27.rs h32.rs (hF.sub _ rfl)
          · refine d_op 10 (some 7) (Go.Op.alloc 24) (by kernel_rfl) fun ty pos af => ?_
            refine s_alloc hF (by decide) zero24 fun w264 b7 a eb7 m7 B265 zb7 hF => ?_
            have sB265 := B265.size
            have hB := hB.trans (B265.mono hB.size)
            have m3 := m3.old B265
            have m4 := m4.old B265
            have m5 := m5.old B265
            have h26 := h26.below B265
            have m8 := m8.old B265
            have h27 := h27.below B265
            have hS := hS.below B265
            refine s_end ⟨hS, ?_⟩
            refine d_one 7 (some 30) (Go.Op.call (Go.Call.mk (Go.Callee.value (Go.Operand.func 32)) #[(Go.Operand.tmp 28), (Go.Operand.tmp 29)] #[24, 24])) (by kernel_rfl) (by kernel_rfl) fun ty pos af => ?_
            refine s_callR (R := fun u w' => ∃ z, u = lv z ∧ RSn w' (fun k => w264.heap.size ≤ k) (.mx (r) (p)) z) [_, _] hF (enters_of Try.func32 (by kernel_rfl) rfl) rfl (by decide) (Max32 (r) (p) z x w264 (RS.below hB hr) (RS.below hB hp) br.1 br.2 bp.1 bp.2) ?_
            rintro _ w266 a ⟨t30, rfl, h30n⟩ B267 hF
            have sB267 := B267.size
            have hB := hB.trans (B267.mono hB.size)
            have m3 := m3.old B267
            have m4 := m4.old B267
            have m5 := m5.old B267
            have h26 := h26.below B267
            have m8 := m8.old B267
            have h27 := h27.below B267
            have m7 := m7.old B267
            have hS := hS.below B267
            have h30 := h30n.valid
            have h130 := h30n.rs.one1
            refine s_end ⟨hS, ?_⟩
            refine d_one 9 (some 32) (Go.Op.call (Go.Call.mk (Go.Callee.value (Go.Operand.func 32)) #[(Go.Operand.tmp 30), (Go.Operand.tmp 31)] #[24, 24])) (by kernel_rfl) (by kernel_rfl) fun ty pos af => ?_
            refine s_callR (R := fun u w' => ∃ z, u = lv z ∧ RSn w' (fun k => w266.heap.size ≤ k) (.mx (.mx r p) (q)) z) [_, _] hF (enters_of Try.func32 (by kernel_rfl) rfl) rfl (by decide) (Max32 (.mx r p) (q) t30 y w266 h30.rs (RS.below hB hq) brp.1 brp.2 bq.1 bq.2) ?_
            rintro _ w268 a ⟨t32, rfl, h32n⟩ B269 hF
            have sB269 := B269.size
            have hB := hB.trans (B269.mono hB.size)
            have m3 := m3.old B269
            have m4 := m4.old B269
            have m5 := m5.old B269
            have h26 := h26.below B269
            have m8 := m8.old B269
            have h27 := h27.below B269
            have m7 := m7.old B269
            have h30 := h30.below B269
            have hS := hS.below B269
            have h32 := h32n.valid
            have h132 := h32n.rs.one1
            refine s_end ⟨hS, ?_⟩
            refine d_one 12 none (Go.Op.store 24 (Go.Operand.tmp 7) (Go.Operand.tmp 27)) (by kernel_rfl) (by kernel_rfl) fun ty pos af => ?_
            refine s_putW hF rfl rfl (size_wide wide24) m7 rfl (one_lc h127) fun w270 m7 o271 => ?_
            have so271 := o271.size
            have hB := hB.trans (o271.below (by omega))
            have m3 := m3.only o271 (by omega)
            have m4 := m4.only o271 (by omega)
            have m5 := m5.only o271 (by omega)
            have h26 := h26.only o271 (fun k (hk : w32.heap.size ≤ k ∧ k < w78.heap.size) => by omega)
            have m8 := m8.only o271 (by omega)
            have h27 := h27.only o271 (fun k (hk : w242.heap.size ≤ k ∧ k < w244.heap.size) => by omega)
            have h30 := h30.only o271 (fun k (hk : w264.heap.size ≤ k ∧ k < w266.heap.size) => by omega)
            have h32 := h32.only o271 (fun k (hk : w266.heap.size ≤ k ∧ k < w268.heap.size) => by omega)
            have hS := hS.only o271 (by omega)
            refine s_end ⟨hS, ?_⟩
            refine d_one 13 none (Go.Op.store 24 (Go.Operand.tmp 8) (Go.Operand.tmp 32)) (by kernel_rfl) (by kernel_rfl) fun ty pos af => ?_
            refine s_putW hF rfl rfl (size_wide wide24) m8 rfl (one_lc h132) fun w272 m8 o273 => ?_
            have so273 := o273.size
            have hB := hB.trans (o273.below (by omega))
            have m3 := m3.only o273 (by omega)
            have m4 := m4.only o273 (by omega)
            have m5 := m5.only o273 (by omega)
            have h26 := h26.only o273 (fun k (hk : w32.heap.size ≤ k ∧ k < w78.heap.size) => by omega)
            have h27 := h27.only o273 (fun k (hk : w242.heap.size ≤ k ∧ k < w244.heap.size) => by omega)
            have m7 := m7.only o273 (by omega)
            have h30 := h30.only o273 (fun k (hk : w264.heap.size ≤ k ∧ k < w266.heap.size) => by omega)
            have h32 := h32.only o273 (fun k (hk : w266.heap.size ≤ k ∧ k < w268.heap.size) => by omega)
            have hS := hS.only o273 (by omega)
            refine s_end ⟨hS, ?_⟩
            refine d_end (by kernel_rfl) ?_
            exact key11 _ _ _ _ _ _ hB m3 m4 m5 m7 m8 h27.rs h32.rs (hF.sub _ rfl)
        · refine d_op 10 (some 7) (Go.Op.alloc 24) (by kernel_rfl) fun ty pos af => ?_
          refine s_alloc hF (by decide) zero24 fun w274 b7 a eb7 m7 B275 zb7 hF => ?_
          have sB275 := B275.size
          have hB := hB.trans (B275.mono hB.size)
          have m3 := m3.old B275
          have m4 := m4.old B275
          have m5 := m5.old B275
          have h26 := h26.below B275
          have m8 := m8.old B275
          have hS := hS.below B275
          refine s_end ⟨hS, ?_⟩
          refine d_one 4 (some 27) (Go.Op.call (Go.Call.mk (Go.Callee.value (Go.Operand.func 32)) #[(Go.Operand.tmp 23), (Go.Operand.tmp 26)] #[24, 24])) (by kernel_rfl) (by kernel_rfl) fun ty pos af => ?_
          refine s_callR (R := fun u w' => ∃ z, u = lv z ∧ RSn w' (fun k => w274.heap.size ≤ k) (.mx (p) (.mx q r)) z) [_, _] hF (enters_of Try.func32 (by kernel_rfl) rfl) rfl (by decide) (Max32 (p) (.mx q r) x t26 w274 (RS.below hB hp) h26.rs bp.1 bp.2 bqr.1 bqr.2) ?_
          rintro _ w276 a ⟨t27, rfl, h27n⟩ B277 hF
          have sB277 := B277.size
          have hB := hB.trans (B277.mono hB.size)
          have m3 := m3.old B277
          have m4 := m4.old B277
          have m5 := m5.old B277
          have h26 := h26.below B277
          have m8 := m8.old B277
          have m7 := m7.old B277
          have hS := hS.below B277
          have h27 := h27n.valid
          have h127 := h27n.rs.one1
          refine s_end ⟨hS, ?_⟩
          refine d_one 7 (some 30) (Go.Op.call (Go.Call.mk (Go.Callee.value (Go.Operand.func 32)) #[(Go.Operand.tmp 28), (Go.Operand.tmp 29)] #[24, 24])) (by kernel_rfl) (by kernel_rfl) fun ty pos af => ?_
          refine s_callR (R := fun u w' => ∃ z, u = lv z ∧ RSn w' (fun k => w276.heap.size ≤ k) (.mx (r) (p)) z) [_, _] hF (enters_of Try.func32 (by kernel_rfl) rfl) rfl (by decide) (Max32 (r) (p) z x w276 (RS.below hB hr) (RS.below hB hp) br.1 br.2 bp.1 bp.2) ?_
          rintro _ w278 a ⟨t30, rfl, h30n⟩ B279 hF
          have sB279 := B279.size
          have hB := hB.trans (B279.mono hB.size)
          have m3 := m3.old B279
          have m4 := m4.old B279
          have m5 := m5.old B279
          have h26 := h26.below B279
          have m8 := m8.old B279
          have m7 := m7.old B279
          have h27 := h27.below B279
          have hS := hS.below B279
          have h30 := h30n.valid
          have h130 := h30n.rs.one1
          refine s_end ⟨hS, ?_⟩
          refine d_one 9 (some 32) (Go.Op.call (Go.Call.mk (Go.Callee.value (Go.Operand.func 32)) #[(Go.Operand.tmp 30), (Go.Operand.tmp 31)] #[24, 24])) (by kernel_rfl) (by kernel_rfl) fun ty pos af => ?_
          refine s_callR (R := fun u w' => ∃ z, u = lv z ∧ RSn w' (fun k => w278.heap.size ≤ k) (.mx (.mx r p) (q)) z) [_, _] hF (enters_of Try.func32 (by kernel_rfl) rfl) rfl (by decide) (Max32 (.mx r p) (q) t30 y w278 h30.rs (RS.below hB hq) brp.1 brp.2 bq.1 bq.2) ?_
          rintro _ w280 a ⟨t32, rfl, h32n⟩ B281 hF
          have sB281 := B281.size
          have hB := hB.trans (B281.mono hB.size)
          have m3 := m3.old B281
          have m4 := m4.old B281
          have m5 := m5.old B281
          have h26 := h26.below B281
          have m8 := m8.old B281
          have m7 := m7.old B281
          have h27 := h27.below B281
          have h30 := h30.below B281
          have hS := hS.below B281
          have h32 := h32n.valid
          have h132 := h32n.rs.one1
          refine s_end ⟨hS, ?_⟩
          refine d_one 12 none (Go.Op.store 24 (Go.Operand.tmp 7) (Go.Operand.tmp 27)) (by kernel_rfl) (by kernel_rfl) fun ty pos af => ?_
          refine s_putW hF rfl rfl (size_wide wide24) m7 rfl (one_lc h127) fun w282 m7 o283 => ?_
          have so283 := o283.size
          have hB := hB.trans (o283.below (by omega))
          have m3 := m3.only o283 (by omega)
          have m4 := m4.only o283 (by omega)
          have m5 := m5.only o283 (by omega)
          have h26 := h26.only o283 (fun k (hk : w32.heap.size ≤ k ∧ k < w78.heap.size) => by omega)
          have m8 := m8.only o283 (by omega)
          have h27 := h27.only o283 (fun k (hk : w274.heap.size ≤ k ∧ k < w276.heap.size) => by omega)
          have h30 := h30.only o283 (fun k (hk : w276.heap.size ≤ k ∧ k < w278.heap.size) => by omega)
          have h32 := h32.only o283 (fun k (hk : w278.heap.size ≤ k ∧ k < w280.heap.size) => by omega)
          have hS := hS.only o283 (by omega)
          refine s_end ⟨hS, ?_⟩
          refine d_one 13 none (Go.Op.store 24 (Go.Operand.tmp 8) (Go.Operand.tmp 32)) (by kernel_rfl) (by kernel_rfl) fun ty pos af => ?_
          refine s_putW hF rfl rfl (size_wide wide24) m8 rfl (one_lc h132) fun w284 m8 o285 => ?_
          have so285 := o285.size
          have hB := hB.trans (o285.below (by omega))
          have m3 := m3.only o285 (by omega)
          have m4 := m4.only o285 (by omega)
          have m5 := m5.only o285 (by omega)
          have h26 := h26.only o285 (fun k (hk : w32.heap.size ≤ k ∧ k < w78.heap.size) => by omega)
          have m7 := m7.only o285 (by omega)
          have h27 := h27.only o285 (fun k (hk : w274.heap.size ≤ k ∧ k < w276.heap.size) => by omega)
          have h30 := h30.only o285 (fun k (hk : w276.heap.size ≤ k ∧ k < w278.heap.size) => by omega)
          have h32 := h32.only o285 (fun k (hk : w278.heap.size ≤ k ∧ k < w280.heap.size) => by omega)
          have hS := hS.only o285 (by omega)
          refine s_end ⟨hS, ?_⟩
          refine d_end (by kernel_rfl) ?_
          exact key11 _ _ _ _ _ _ hB m3 m4 m5 m7 m8 h27.rs h32.rs (hF.sub _ rfl)
    · refine d_op 10 (some 7) (Go.Op.alloc 24) (by kernel_rfl) fun ty pos af => ?_
      refine s_alloc hF (by decide) zero24 fun w286 b7 a eb7 m7 B287 zb7 hF => ?_
      have sB287 := B287.size
      have hB := hB.trans (B287.mono hB.size)
      have m3 := m3.old B287
      have m4 := m4.old B287
      have m5 := m5.old B287
      have hS := hS.below B287
      refine s_end ⟨hS, ?_⟩
      refine d_two 3 11 (by kernel_rfl) ?_ ?_
      · refine d_op 3 (some 26) (Go.Op.call (Go.Call.mk (Go.Callee.value (Go.Operand.func 32)) #[(Go.Operand.tmp 24), (Go.Operand.tmp 25)] #[24, 24])) (by kernel_rfl) fun ty pos af => ?_
        refine s_callR (R := fun u w' => ∃ z, u = lv z ∧ RSn w' (fun k => w286.heap.size ≤ k) (.mx (q) (r)) z) [_, _] hF (enters_of Try.func32 (by kernel_rfl) rfl) rfl (by decide) (Max32 (q) (r) y z w286 (RS.below hB hq) (RS.below hB hr) bq.1 bq.2 br.1 br.2) ?_
        rintro _ w288 a ⟨t26, rfl, h26n⟩ B289 hF
        have sB289 := B289.size
        have hB := hB.trans (B289.mono hB.size)
        have m3 := m3.old B289
        have m4 := m4.old B289
        have m5 := m5.old B289
        have m7 := m7.old B289
        have hS := hS.below B289
        have h26 := h26n.valid
        have h126 := h26n.rs.one1
        refine s_end ⟨hS, ?_⟩
        refine d_two 4 11 (by kernel_rfl) ?_ ?_
        · refine d_op 4 (some 27) (Go.Op.call (Go.Call.mk (Go.Callee.value (Go.Operand.func 32)) #[(Go.Operand.tmp 23), (Go.Operand.tmp 26)] #[24, 24])) (by kernel_rfl) fun ty pos af => ?_
          refine s_callR (R := fun u w' => ∃ z, u = lv z ∧ RSn w' (fun k => w288.heap.size ≤ k) (.mx (p) (.mx q r)) z) [_, _] hF (enters_of Try.func32 (by kernel_rfl) rfl) rfl (by decide) (Max32 (p) (.mx q r) x t26 w288 (RS.below hB hp) h26.rs bp.1 bp.2 bqr.1 bqr.2) ?_
          rintro _ w290 a ⟨t27, rfl, h27n⟩ B291 hF
          have sB291 := B291.size
          have hB := hB.trans (B291.mono hB.size)
          have m3 := m3.old B291
          have m4 := m4.old B291
          have m5 := m5.old B291
          have m7 := m7.old B291
          have h26 := h26.below B291
          have hS := hS.below B291
          have h27 := h27n.valid
          have h127 := h27n.rs.one1
          refine s_end ⟨hS, ?_⟩
          refine d_two 7 11 (by kernel_rfl) ?_ ?_
          · refine d_op 7 (some 30) (Go.Op.call (Go.Call.mk (Go.Callee.value (Go.Operand.func 32)) #[(Go.Operand.tmp 28), (Go.Operand.tmp 29)] #[24, 24])) (by kernel_rfl) fun ty pos af => ?_
            refine s_callR (R := fun u w' => ∃ z, u = lv z ∧ RSn w' (fun k => w290.heap.size ≤ k) (.mx (r) (p)) z) [_, _] hF (enters_of Try.func32 (by kernel_rfl) rfl) rfl (by decide) (Max32 (r) (p) z x w290 (RS.below hB hr) (RS.below hB hp) br.1 br.2 bp.1 bp.2) ?_
            rintro _ w292 a ⟨t30, rfl, h30n⟩ B293 hF
            have sB293 := B293.size
            have hB := hB.trans (B293.mono hB.size)
            have m3 := m3.old B293
            have m4 := m4.old B293
            have m5 := m5.old B293
            have m7 := m7.old B293
            have h26 := h26.below B293
            have h27 := h27.below B293
            have hS := hS.below B293
            have h30 := h30n.valid
            have h130 := h30n.rs.one1
            refine s_end ⟨hS, ?_⟩
            refine d_two 9 11 (by kernel_rfl) ?_ ?_
            · refine d_op 9 (some 32) (Go.Op.call (Go.Call.mk (Go.Callee.value (Go.Operand.func 32)) #[(Go.Operand.tmp 30), (Go.Operand.tmp 31)] #[24, 24])) (by kernel_rfl) fun ty pos af => ?_
              refine s_callR (R := fun u w' => ∃ z, u = lv z ∧ RSn w' (fun k => w292.heap.size ≤ k) (.mx (.mx r p) (q)) z) [_, _] hF (enters_of Try.func32 (by kernel_rfl) rfl) rfl (by decide) (Max32 (.mx r p) (q) t30 y w292 h30.rs (RS.below hB hq) brp.1 brp.2 bq.1 bq.2) ?_
              rintro _ w294 a ⟨t32, rfl, h32n⟩ B295 hF
              have sB295 := B295.size
              have hB := hB.trans (B295.mono hB.size)
              have m3 := m3.old B295
              have m4 := m4.old B295
              have m5 := m5.old B295
              have m7 := m7.old B295
              have h26 := h26.below B295
              have h27 := h27.below B295
              have h30 := h30.below B295
              have hS := hS.below B295
              have h32 := h32n.valid
              have h132 := h32n.rs.one1
              refine s_end ⟨hS, ?_⟩
              refine d_one 11 (some 8) (Go.Op.alloc 24) (by kernel_rfl) (by kernel_rfl) fun ty pos af => ?_
              refine s_alloc hF (by decide) zero24 fun w296 b8 a eb8 m8 B297 zb8 hF => ?_
              have sB297 := B297.size
              have hB := hB.trans (B297.mono hB.size)
              have m3 := m3.old B297
              have m4 := m4.old B297
              have m5 := m5.old B297
              have m7 := m7.old B297
              have h26 := h26.below B297
              have h27 := h27.below B297
              have h30 := h30.below B297
              have h32 := h32.below B297
              have hS := hS.below B297
              refine s_end ⟨hS, ?_⟩
              refine d_one 12 none (Go.Op.store 24 (Go.Operand.tmp 7) (Go.Operand.tmp 27)) (by kernel_rfl) (by kernel_rfl) fun ty pos af => ?_
              refine s_putW hF rfl rfl (size_wide wide24) m7 rfl (one_lc h127) fun w298 m7 o299 => ?_
              have so299 := o299.size
              have hB := hB.trans (o299.below (by omega))
              have m3 := m3.only o299 (by omega)
              have m4 := m4.only o299 (by omega)
              have m5 := m5.only o299 (by omega)
              have h26 := h26.only o299 (fun k (hk : w286.heap.size ≤ k ∧ k < w288.heap.size) => by omega)
              have h27 := h27.only o299 (fun k (hk : w288.heap.size ≤ k ∧ k < w290.heap.size) => by omega)
              have h30 := h30.only o299 (fun k (hk : w290.heap.size ≤ k ∧ k < w292.heap.size) => by omega)
              have h32 := h32.only o299 (fun k (hk : w292.heap.size ≤ k ∧ k < w294.heap.size) => by omega)
              have m8 := m8.only o299 (by omega)
              have hS := hS.only o299 (by omega)
              refine s_end ⟨hS, ?_⟩
              refine d_one 13 none (Go.Op.store 24 (Go.Operand.tmp 8) (Go.Operand.tmp 32)) (by kernel_rfl) (by kernel_rfl) fun ty pos af => ?_
              refine s_putW hF rfl rfl (size_wide wide24) m8 rfl (one_lc h132) fun w300 m8 o301 => ?_
              have so301 := o301.size
              have hB := hB.trans (o301.below (by omega))
              have m3 := m3.only o301 (by omega)
              have m4 := m4.only o301 (by omega)
              have m5 := m5.only o301 (by omega)
              have m7 := m7.only o301 (by omega)
              have h26 := h26.only o301 (fun k (hk : w286.heap.size ≤ k ∧ k < w288.heap.size) => by omega)
              have h27 := h27.only o301 (fun k (hk : w288.heap.size ≤ k ∧ k < w290.heap.size) => by omega)
              have h30 := h30.only o301 (fun k (hk : w290.heap.size ≤ k ∧ k < w292.heap.size) => by omega)
              have h32 := h32.only o301 (fun k (hk : w292.heap.size ≤ k ∧ k < w294.heap.size) => by omega)
              have hS := hS.only o301 (by omega)
              refine s_end ⟨hS, ?_⟩
              refine d_end (by kernel_rfl) ?_
              exact key11 _ _ _ _ _ _ hB m3 m4 m5 m7 m8 h27.rs h32.rs (hF.sub _ rfl)
            · refine d_op 11 (some 8) (Go.Op.alloc 24) (by kernel_rfl) fun ty pos af => ?_
              refine s_alloc hF (by decide) zero24 fun w302 b8 a eb8 m8 B303 zb8 hF => ?_
              have sB303 := B303.size
              have hB := hB.trans (B303.mono hB.size)
              have m3 := m3.old B303
              have m4 := m4.old B303
              have m5 := m5.old B303
              have m7 := m7.old B303
              have h26 := h26.below B303
              have h27 := h27.below B303
              have h30 := h30.below B303
              have hS := hS.below B303
              refine s_end ⟨hS, ?_⟩
              refine d_one 9 (some 32) (Go.Op.call (Go.Call.mk (Go.Callee.value (Go.Operand.func 32)) #[(Go.Operand.tmp 30), (Go.Operand.tmp 31)] #[24, 24])) (by kernel_rfl) (by kernel_rfl) fun ty pos af => ?_
              refine s_callR (R := fun u w' => ∃ z, u = lv z ∧ RSn w' (fun k => w302.heap.size ≤ k) (.mx (.mx r p) (q)) z) [_, _] hF (enters_of Try.func32 (by kernel_rfl) rfl) rfl (by decide) (Max32 (.mx r p) (q) t30 y w302 h30.rs (RS.below hB hq) brp.1 brp.2 bq.1 bq.2) ?_
              rintro _ w304 a ⟨t32, rfl, h32n⟩ B305 hF
              have sB305 := B305.size
              have hB := hB.trans (B305.mono hB.size)
              have m3 := m3.old B305
              have m4 := m4.old B305
              have m5 := m5.old B305
              have m7 := m7.old B305
              have h26 := h26.below B305
              have h27 := h27.below B305
              have h30 := h30.below B305
              have m8 := m8.old B305
              have hS := hS.below B305
              have h32 := h32n.valid
              have h132 := h32n.rs.one1
              refine s_end ⟨hS, ?_⟩
              refine d_one 12 none (Go.Op.store 24 (Go.Operand.tmp 7) (Go.Operand.tmp 27)) (by kernel_rfl) (by kernel_rfl) fun ty pos af => ?_
              refine s_putW hF rfl rfl (size_wide wide24) m7 rfl (one_lc h127) fun w306 m7 o307 => ?_
              have so307 := o307.size
              have hB := hB.trans (o307.below (by omega))
              have m3 := m3.only o307 (by omega)
              have m4 := m4.only o307 (by omega)
              have m5 := m5.only o307 (by omega)
              have h26 := h26.only o307 (fun k (hk : w286.heap.size ≤ k ∧ k < w288.heap.size) => by omega)
              have h27 := h27.only o307 (fun k (hk : w288.heap.size ≤ k ∧ k < w290.heap.size) => by omega)
              have h30 := h30.only o307 (fun k (hk : w290.heap.size ≤ k ∧ k < w292.heap.size) => by omega)
              have m8 := m8.only o307 (by omega)
              have h32 := h32.only o307 (fun k (hk : w302.heap.size ≤ k ∧ k < w304.heap.size) => by omega)
              have hS := hS.only o307 (by omega)
              refine s_end ⟨hS, ?_⟩
              refine d_one 13 none (Go.Op.store 24 (Go.Operand.tmp 8) (Go.Operand.tmp 32)) (by kernel_rfl) (by kernel_rfl) fun ty pos af => ?_
              refine s_putW hF rfl rfl (size_wide wide24) m8 rfl (one_lc h132) fun w308 m8 o309 => ?_
              have so309 := o309.size
              have hB := hB.trans (o309.below (by omega))
              have m3 := m3.only o309 (by omega)
              have m4 := m4.only o309 (by omega)
              have m5 := m5.only o309 (by omega)
              have m7 := m7.only o309 (by omega)
              have h26 := h26.only o309 (fun k (hk : w286.heap.size ≤ k ∧ k < w288.heap.size) => by omega)
              have h27 := h27.only o309 (fun k (hk : w288.heap.size ≤ k ∧ k < w290.heap.size) => by omega)
              have h30 := h30.only o309 (fun k (hk : w290.heap.size ≤ k ∧ k < w292.heap.size) => by omega)
              have h32 := h32.only o309 (fun k (hk : w302.heap.size ≤ k ∧ k < w304.heap.size) => by omega)
              have hS := hS.only o309 (by omega)
              refine s_end ⟨hS, ?_⟩
              refine d_end (by kernel_rfl) ?_
              exact key11 _ _ _ _ _ _ hB m3 m4 m5 m7 m8 h27.rs h32.rs (hF.sub _ rfl)
          · refine d_op 11 (some 8) (Go.Op.alloc 24) (by kernel_rfl) fun ty pos af => ?_
            refine s_alloc hF (by decide) zero24 fun w310 b8 a eb8 m8 B311 zb8 hF => ?_
            have sB311 := B311.size
            have hB := hB.trans (B311.mono hB.size)
            have m3 := m3.old B311
            have m4 := m4.old B311
            have m5 := m5.old B311
            have m7 := m7.old B311
            have h26 := h26.below B311
            have h27 := h27.below B311
            have hS := hS.below B311
            refine s_end ⟨hS, ?_⟩
            refine d_one 7 (some 30) (Go.Op.call (Go.Call.mk (Go.Callee.value (Go.Operand.func 32)) #[(Go.Operand.tmp 28), (Go.Operand.tmp 29)] #[24, 24])) (by kernel_rfl) (by kernel_rfl) fun ty pos af => ?_
            refine s_callR (R := fun u w' => ∃ z, u = lv z ∧ RSn w' (fun k => w310.heap.size ≤ k) (.mx (r) (p)) z) [_, _] hF (enters_of Try.func32 (by kernel_rfl) rfl) rfl (by decide) (Max32 (r) (p) z x w310 (RS.below hB hr) (RS.below hB hp) br.1 br.2 bp.1 bp.2) ?_
            rintro _ w312 a ⟨t30, rfl, h30n⟩ B313 hF
            have sB313 := B313.size
            have hB := hB.trans (B313.mono hB.size)
            have m3 := m3.old B313
            have m4 := m4.old B313
            have m5 := m5.old B313
            have m7 := m7.old B313
            have h26 := h26.below B313
            have h27 := h27.below B313
            have m8 := m8.old B313
            have hS := hS.below B313
            have h30 := h30n.valid
            have h130 := h30n.rs.one1
            refine s_end ⟨hS, ?_⟩
            refine d_one 9 (some 32) (Go.Op.call (Go.Call.mk (Go.Callee.value (Go.Operand.func 32)) #[(Go.Operand.tmp 30), (Go.Operand.tmp 31)] #[24, 24])) (by kernel_rfl) (by kernel_rfl) fun ty pos af => ?_
            refine s_callR (R := fun u w' => ∃ z, u = lv z ∧ RSn w' (fun k => w312.heap.size ≤ k) (.mx (.mx r p) (q)) z) [_, _] hF (enters_of Try.func32 (by kernel_rfl) rfl) rfl (by decide) (Max32 (.mx r p) (q) t30 y w312 h30.rs (RS.below hB hq) brp.1 brp.2 bq.1 bq.2) ?_
            rintro _ w314 a ⟨t32, rfl, h32n⟩ B315 hF
            have sB315 := B315.size
            have hB := hB.trans (B315.mono hB.size)
            have m3 := m3.old B315
            have m4 := m4.old B315
            have m5 := m5.old B315
            have m7 := m7.old B315
            have h26 := h26.below B315
            have h27 := h27.below B315
            have m8 := m8.old B315
            have h30 := h30.below B315
            have hS := hS.below B315
            have h32 := h32n.valid
            have h132 := h32n.rs.one1
            refine s_end ⟨hS, ?_⟩
            refine d_one 12 none (Go.Op.store 24 (Go.Operand.tmp 7) (Go.Operand.tmp 27)) (by kernel_rfl) (by kernel_rfl) fun ty pos af => ?_
            refine s_putW hF rfl rfl (size_wide wide24) m7 rfl (one_lc h127) fun w316 m7 o317 => ?_
            have so317 := o317.size
            have hB := hB.trans (o317.below (by omega))
            have m3 := m3.only o317 (by omega)
            have m4 := m4.only o317 (by omega)
            have m5 := m5.only o317 (by omega)
            have h26 := h26.only o317 (fun k (hk : w286.heap.size ≤ k ∧ k < w288.heap.size) => by omega)
            have h27 := h27.only o317 (fun k (hk : w288.heap.size ≤ k ∧ k < w290.heap.size) => by omega)
            have m8 := m8.only o317 (by omega)
            have h30 := h30.only o317 (fun k (hk : w310.heap.size ≤ k ∧ k < w312.heap.size) => by omega)
            have h32 := h32.only o317 (fun k (hk : w312.heap.size ≤ k ∧ k < w314.heap.size) => by omega)
            have hS := hS.only o317 (by omega)
            refine s_end ⟨hS, ?_⟩
            refine d_one 13 none (Go.Op.store 24 (Go.Operand.tmp 8) (Go.Operand.tmp 32)) (by kernel_rfl) (by kernel_rfl) fun ty pos af => ?_
            refine s_putW hF rfl rfl (size_wide wide24) m8 rfl (one_lc h132) fun w318 m8 o319 => ?_
            have so319 := o319.size
            have hB := hB.trans (o319.below (by omega))
            have m3 := m3.only o319 (by omega)
            have m4 := m4.only o319 (by omega)
            have m5 := m5.only o319 (by omega)
            have m7 := m7.only o319 (by omega)
            have h26 := h26.only o319 (fun k (hk : w286.heap.size ≤ k ∧ k < w288.heap.size) => by omega)
            have h27 := h27.only o319 (fun k (hk : w288.heap.size ≤ k ∧ k < w290.heap.size) => by omega)
            have h30 := h30.only o319 (fun k (hk : w310.heap.size ≤ k ∧ k < w312.heap.size) => by omega)
            have h32 := h32.only o319 (fun k (hk : w312.heap.size ≤ k ∧ k < w314.heap.size) => by omega)
            have hS := hS.only o319 (by omega)
            refine s_end ⟨hS, ?_⟩
            refine d_end (by kernel_rfl) ?_
            exact key11 _ _ _ _ _ _ hB m3 m4 m5 m7 m8 h27.rs h32.rs (hF.sub _ rfl)
        · refine d_op 11 (some 8) (Go.Op.alloc 24) (by kernel_rfl) fun ty pos af => ?_
          refine s_alloc hF (by decide) zero24 fun w320 b8 a eb8 m8 B321 zb8 hF => ?_
          have sB321 := B321.size
          have hB := hB.trans (B321.mono hB.size)
          have m3 := m3.old B321
          have m4 := m4.old B321
          have m5 := m5.old B321
          have m7 := m7.old B321
          have h26 := h26.below B321
          have hS := hS.below B321
          refine s_end ⟨hS, ?_⟩
          refine d_one 4 (some 27) (Go.Op.call (Go.Call.mk (Go.Callee.value (Go.Operand.func 32)) #[(Go.Operand.tmp 23), (Go.Operand.tmp 26)] #[24, 24])) (by kernel_rfl) (by kernel_rfl) fun ty pos af => ?_
          refine s_callR (R := fun u w' => ∃ z, u = lv z ∧ RSn w' (fun k => w320.heap.size ≤ k) (.mx (p) (.mx q r)) z) [_, _] hF (enters_of Try.func32 (by kernel_rfl) rfl) rfl (by decide) (Max32 (p) (.mx q r) x t26 w320 (RS.below hB hp) h26.rs bp.1 bp.2 bqr.1 bqr.2) ?_
          rintro _ w322 a ⟨t27, rfl, h27n⟩ B323 hF
          have sB323 := B323.size
          have hB := hB.trans (B323.mono hB.size)
          have m3 := m3.old B323
          have m4 := m4.old B323
          have m5 := m5.old B323
          have m7 := m7.old B323
          have h26 := h26.below B323
          have m8 := m8.old B323
          have hS := hS.below B323
          have h27 := h27n.valid
          have h127 := h27n.rs.one1
          refine s_end ⟨hS, ?_⟩
          refine d_one 7 (some 30) (Go.Op.call (Go.Call.mk (Go.Callee.value (Go.Operand.func 32)) #[(Go.Operand.tmp 28), (Go.Operand.tmp 29)] #[24, 24])) (by kernel_rfl) (by kernel_rfl) fun ty pos af => ?_
          refine s_callR (R := fun u w' => ∃ z, u = lv z ∧ RSn w' (fun k => w322.heap.size ≤ k) (.mx (r) (p)) z) [_, _] hF (enters_of Try.func32 (by kernel_rfl) rfl) rfl (by decide) (Max32 (r) (p) z x w322 (RS.below hB hr) (RS.below hB hp) br.1 br.2 bp.1 bp.2) ?_
          rintro _ w324 a ⟨t30, rfl, h30n⟩ B325 hF
          have sB325 := B325.size
          have hB := hB.trans (B325.mono hB.size)
          have m3 := m3.old B325
          have m4 := m4.old B325
          have m5 := m5.old B325
          have m7 := m7.old B325
          have h26 := h26.below B325
          have m8 := m8.old B325
          have h27 := h27.below B325
          have hS := hS.below B325
          have h30 := h30n.valid
          have h130 := h30n.rs.one1
          refine s_end ⟨hS, ?_⟩
          refine d_one 9 (some 32) (Go.Op.call (Go.Call.mk (Go.Callee.value (Go.Operand.func 32)) #[(Go.Operand.tmp 30), (Go.Operand.tmp 31)] #[24, 24])) (by kernel_rfl) (by kernel_rfl) fun ty pos af => ?_
          refine s_callR (R := fun u w' => ∃ z, u = lv z ∧ RSn w' (fun k => w324.heap.size ≤ k) (.mx (.mx r p) (q)) z) [_, _] hF (enters_of Try.func32 (by kernel_rfl) rfl) rfl (by decide) (Max32 (.mx r p) (q) t30 y w324 h30.rs (RS.below hB hq) brp.1 brp.2 bq.1 bq.2) ?_
          rintro _ w326 a ⟨t32, rfl, h32n⟩ B327 hF
          have sB327 := B327.size
          have hB := hB.trans (B327.mono hB.size)
          have m3 := m3.old B327
          have m4 := m4.old B327
          have m5 := m5.old B327
          have m7 := m7.old B327
          have h26 := h26.below B327
          have m8 := m8.old B327
          have h27 := h27.below B327
          have h30 := h30.below B327
          have hS := hS.below B327
          have h32 := h32n.valid
          have h132 := h32n.rs.one1
          refine s_end ⟨hS, ?_⟩
          refine d_one 12 none (Go.Op.store 24 (Go.Operand.tmp 7) (Go.Operand.tmp 27)) (by kernel_rfl) (by kernel_rfl) fun ty pos af => ?_
          refine s_putW hF rfl rfl (size_wide wide24) m7 rfl (one_lc h127) fun w328 m7 o329 => ?_
          have so329 := o329.size
          have hB := hB.trans (o329.below (by omega))
          have m3 := m3.only o329 (by omega)
          have m4 := m4.only o329 (by omega)
          have m5 := m5.only o329 (by omega)
          have h26 := h26.only o329 (fun k (hk : w286.heap.size ≤ k ∧ k < w288.heap.size) => by omega)
          have m8 := m8.only o329 (by omega)
          have h27 := h27.only o329 (fun k (hk : w320.heap.size ≤ k ∧ k < w322.heap.size) => by omega)
          have h30 := h30.only o329 (fun k (hk : w322.heap.size ≤ k ∧ k < w324.heap.size) => by omega)
          have h32 := h32.only o329 (fun k (hk : w324.heap.size ≤ k ∧ k < w326.heap.size) => by omega)
          have hS := hS.only o329 (by omega)
          refine s_end ⟨hS, ?_⟩
          refine d_one 13 none (Go.Op.store 24 (Go.Operand.tmp 8) (Go.Operand.tmp 32)) (by kernel_rfl) (by kernel_rfl) fun ty pos af => ?_
          refine s_putW hF rfl rfl (size_wide wide24) m8 rfl (one_lc h132) fun w330 m8 o331 => ?_
          have so331 := o331.size
          have hB := hB.trans (o331.below (by omega))
          have m3 := m3.only o331 (by omega)
          have m4 := m4.only o331 (by omega)
          have m5 := m5.only o331 (by omega)
          have m7 := m7.only o331 (by omega)
          have h26 := h26.only o331 (fun k (hk : w286.heap.size ≤ k ∧ k < w288.heap.size) => by omega)
          have h27 := h27.only o331 (fun k (hk : w320.heap.size ≤ k ∧ k < w322.heap.size) => by omega)
          have h30 := h30.only o331 (fun k (hk : w322.heap.size ≤ k ∧ k < w324.heap.size) => by omega)
          have h32 := h32.only o331 (fun k (hk : w324.heap.size ≤ k ∧ k < w326.heap.size) => by omega)
          have hS := hS.only o331 (by omega)
          refine s_end ⟨hS, ?_⟩
          refine d_end (by kernel_rfl) ?_
          exact key11 _ _ _ _ _ _ hB m3 m4 m5 m7 m8 h27.rs h32.rs (hF.sub _ rfl)
      · refine d_op 11 (some 8) (Go.Op.alloc 24) (by kernel_rfl) fun ty pos af => ?_
        refine s_alloc hF (by decide) zero24 fun w332 b8 a eb8 m8 B333 zb8 hF => ?_
        have sB333 := B333.size
        have hB := hB.trans (B333.mono hB.size)
        have m3 := m3.old B333
        have m4 := m4.old B333
        have m5 := m5.old B333
        have m7 := m7.old B333
        have hS := hS.below B333
        refine s_end ⟨hS, ?_⟩
        refine d_one 3 (some 26) (Go.Op.call (Go.Call.mk (Go.Callee.value (Go.Operand.func 32)) #[(Go.Operand.tmp 24), (Go.Operand.tmp 25)] #[24, 24])) (by kernel_rfl) (by kernel_rfl) fun ty pos af => ?_
        refine s_callR (R := fun u w' => ∃ z, u = lv z ∧ RSn w' (fun k => w332.heap.size ≤ k) (.mx (q) (r)) z) [_, _] hF (enters_of Try.func32 (by kernel_rfl) rfl) rfl (by decide) (Max32 (q) (r) y z w332 (RS.below hB hq) (RS.below hB hr) bq.1 bq.2 br.1 br.2) ?_
        rintro _ w334 a ⟨t26, rfl, h26n⟩ B335 hF
        have sB335 := B335.size
        have hB := hB.trans (B335.mono hB.size)
        have m3 := m3.old B335
        have m4 := m4.old B335
        have m5 := m5.old B335
        have m7 := m7.old B335
        have m8 := m8.old B335
        have hS := hS.below B335
        have h26 := h26n.valid
        have h126 := h26n.rs.one1
        refine s_end ⟨hS, ?_⟩
        refine d_one 4 (some 27) (Go.Op.call (Go.Call.mk (Go.Callee.value (Go.Operand.func 32)) #[(Go.Operand.tmp 23), (Go.Operand.tmp 26)] #[24, 24])) (by kernel_rfl) (by kernel_rfl) fun ty pos af => ?_
        refine s_callR (R := fun u w' => ∃ z, u = lv z ∧ RSn w' (fun k => w334.heap.size ≤ k) (.mx (p) (.mx q r)) z) [_, _] hF (enters_of Try.func32 (by kernel_rfl) rfl) rfl (by decide) (Max32 (p) (.mx q r) x t26 w334 (RS.below hB hp) h26.rs bp.1 bp.2 bqr.1 bqr.2) ?_
        rintro _ w336 a ⟨t27, rfl, h27n⟩ B337 hF
        have sB337 := B337.size
        have hB := hB.trans (B337.mono hB.size)
        have m3 := m3.old B337
        have m4 := m4.old B337
        have m5 := m5.old B337
        have m7 := m7.old B337
        have m8 := m8.old B337
        have h26 := h26.below B337
        have hS := hS.below B337
        have h27 := h27n.valid
        have h127 := h27n.rs.one1
        refine s_end ⟨hS, ?_⟩
        refine d_one 7 (some 30) (Go.Op.call (Go.Call.mk (Go.Callee.value (Go.Operand.func 32)) #[(Go.Operand.tmp 28), (Go.Operand.tmp 29)] #[24, 24])) (by kernel_rfl) (by kernel_rfl) fun ty pos af => ?_
        refine s_callR (R := fun u w' => ∃ z, u = lv z ∧ RSn w' (fun k => w336.heap.size ≤ k) (.mx (r) (p)) z) [_, _] hF (enters_of Try.func32 (by kernel_rfl) rfl) rfl (by decide) (Max32 (r) (p) z x w336 (RS.below hB hr) (RS.below hB hp) br.1 br.2 bp.1 bp.2) ?_
        rintro _ w338 a ⟨t30, rfl, h30n⟩ B339 hF
        have sB339 := B339.size
        have hB := hB.trans (B339.mono hB.size)
        have m3 := m3.old B339
        have m4 := m4.old B339
        have m5 := m5.old B339
        have m7 := m7.old B339
        have m8 := m8.old B339
        have h26 := h26.below B339
        have h27 := h27.below B339
        have hS := hS.below B339
        have h30 := h30n.valid
        have h130 := h30n.rs.one1
        refine s_end ⟨hS, ?_⟩
        refine d_one 9 (some 32) (Go.Op.call (Go.Call.mk (Go.Callee.value (Go.Operand.func 32)) #[(Go.Operand.tmp 30), (Go.Operand.tmp 31)] #[24, 24])) (by kernel_rfl) (by kernel_rfl) fun ty pos af => ?_
        refine s_callR (R := fun u w' => ∃ z, u = lv z ∧ RSn w' (fun k => w338.heap.size ≤ k) (.mx (.mx r p) (q)) z) [_, _] hF (enters_of Try.func32 (by kernel_rfl) rfl) rfl (by decide) (Max32 (.mx r p) (q) t30 y w338 h30.rs (RS.below hB hq) brp.1 brp.2 bq.1 bq.2) ?_
        rintro _ w340 a ⟨t32, rfl, h32n⟩ B341 hF
        have sB341 := B341.size
        have hB := hB.trans (B341.mono hB.size)
        have m3 := m3.old B341
        have m4 := m4.old B341
        have m5 := m5.old B341
        have m7 := m7.old B341
        have m8 := m8.old B341
        have h26 := h26.below B341
        have h27 := h27.below B341
        have h30 := h30.below B341
        have hS := hS.below B341
        have h32 := h32n.valid
        have h132 := h32n.rs.one1
        refine s_end ⟨hS, ?_⟩
        refine d_one 12 none (Go.Op.store 24 (Go.Operand.tmp 7) (Go.Operand.tmp 27)) (by kernel_rfl) (by kernel_rfl) fun ty pos af => ?_
        refine s_putW hF rfl rfl (size_wide wide24) m7 rfl (one_lc h127) fun w342 m7 o343 => ?_
        have so343 := o343.size
        have hB := hB.trans (o343.below (by omega))
        have m3 := m3.only o343 (by omega)
        have m4 := m4.only o343 (by omega)
        have m5 := m5.only o343 (by omega)
        have m8 := m8.only o343 (by omega)
        have h26 := h26.only o343 (fun k (hk : w332.heap.size ≤ k ∧ k < w334.heap.size) => by omega)
        have h27 := h27.only o343 (fun k (hk : w334.heap.size ≤ k ∧ k < w336.heap.size) => by omega)
        have h30 := h30.only o343 (fun k (hk : w336.heap.size ≤ k ∧ k < w338.heap.size) => by omega)
        have h32 := h32.only o343 (fun k (hk : w338.heap.size ≤ k ∧ k < w340.heap.size) => by omega)
        have hS := hS.only o343 (by omega)
        refine s_end ⟨hS, ?_⟩
        refine d_one 13 none (Go.Op.store 24 (Go.Operand.tmp 8) (Go.Operand.tmp 32)) (by kernel_rfl) (by kernel_rfl) fun ty pos af => ?_
        refine s_putW hF rfl rfl (size_wide wide24) m8 rfl (one_lc h132) fun w344 m8 o345 => ?_
        have so345 := o345.size
        have hB := hB.trans (o345.below (by omega))
        have m3 := m3.only o345 (by omega)
        have m4 := m4.only o345 (by omega)
        have m5 := m5.only o345 (by omega)
        have m7 := m7.only o345 (by omega)
        have h26 := h26.only o345 (fun k (hk : w332.heap.size ≤ k ∧ k < w334.heap.size) => by omega)
        have h27 := h27.only o345 (fun k (hk : w334.heap.size ≤ k ∧ k < w336.heap.size) => by omega)
        have h30 := h30.only o345 (fun k (hk : w336.heap.size ≤ k ∧ k < w338.heap.size) => by omega)
        have h32 := h32.only o345 (fun k (hk : w338.heap.size ≤ k ∧ k < w340.heap.size) => by omega)
        have hS := hS.only o345 (by omega)
        refine s_end ⟨hS, ?_⟩
        refine d_end (by kernel_rfl) ?_
        exact key11 _ _ _ _ _ _ hB m3 m4 m5 m7 m8 h27.rs h32.rs (hF.sub _ rfl)
    · refine d_op 11 (some 8) (Go.Op.alloc 24) (by kernel_rfl) fun ty pos af => ?_
      refine s_alloc hF (by decide) zero24 fun w346 b8 a eb8 m8 B347 zb8 hF => ?_
      have sB347 := B347.size
      have hB := hB.trans (B347.mono hB.size)
      have m3 := m3.old B347
      have m4 := m4.old B347
      have m5 := m5.old B347
      have hS := hS.below B347
      refine s_end ⟨hS, ?_⟩
      refine d_two 3 10 (by kernel_rfl) ?_ ?_
      · refine d_op 3 (some 26) (Go.Op.call (Go.Call.mk (Go.Callee.value (Go.Operand.func 32)) #[(Go.Operand.tmp 24), (Go.Operand.tmp 25)] #[24, 24])) (by kernel_rfl) fun ty pos af => ?_
        refine s_callR (R := fun u w' => ∃ z, u = lv z ∧ RSn w' (fun k => w346.heap.size ≤ k) (.mx (q) (r)) z) [_, _] hF (enters_of Try.func32 (by kernel_rfl) rfl) rfl (by decide) (Max32 (q) (r) y z w346 (RS.below hB hq) (RS.below hB hr) bq.1 bq.2 br.1 br.2) ?_
        rintro _ w348 a ⟨t26, rfl, h26n⟩ B349 hF
        have sB349 := B349.size
        have hB := hB.trans (B349.mono hB.size)
        have m3 := m3.old B349
        have m4 := m4.old B349
        have m5 := m5.old B349
        have m8 := m8.old B349
        have hS := hS.below B349
        have h26 := h26n.valid
        have h126 := h26n.rs.one1
        refine s_end ⟨hS, ?_⟩
        refine d_two 4 10 (by kernel_rfl) ?_ ?_
        · refine d_op 4 (some 27) (Go.Op.call (Go.Call.mk (Go.Callee.value (Go.Operand.func 32)) #[(Go.Operand.tmp 23), (Go.Operand.tmp 26)] #[24, 24])) (by kernel_rfl) fun ty pos af => ?_
          refine s_callR (R := fun u w' => ∃ z, u = lv z ∧ RSn w' (fun k => w348.heap.size ≤ k) (.mx (p) (.mx q r)) z) [_, _] hF (enters_of Try.func32 (by kernel_rfl) rfl) rfl (by decide) (Max32 (p) (.mx q r) x t26 w348 (RS.below hB hp) h26.rs bp.1 bp.2 bqr.1 bqr.2) ?_
          rintro _ w350 a ⟨t27, rfl, h27n⟩ B351 hF
          have sB351 := B351.size
          have hB := hB.trans (B351.mono hB.size)
          have m3 := m3.old B351
          have m4 := m4.old B351
          have m5 := m5.old B351
          have m8 := m8.old B351
          have h26 := h26.below B351
          have hS := hS.below B351
          have h27 := h27n.valid
          have h127 := h27n.rs.one1
          refine s_end ⟨hS, ?_⟩
          refine d_two 7 10 (by kernel_rfl) ?_ ?_
          · refine d_op 7 (some 30) (Go.Op.call (Go.Call.mk (Go.Callee.value (Go.Operand.func 32)) #[(Go.Operand.tmp 28), (Go.Operand.tmp 29)] #[24, 24])) (by kernel_rfl) fun ty pos af => ?_
            refine s_callR (R := fun u w' => ∃ z, u = lv z ∧ RSn w' (fun k => w350.heap.size ≤ k) (.mx (r) (p)) z) [_, _] hF (enters_of Try.func32 (by kernel_rfl) rfl) rfl (by decide) (Max32 (r) (p) z x w350 (RS.below hB hr) (RS.below hB hp) br.1 br.2 bp.1 bp.2) ?_
            rintro _ w352 a ⟨t30, rfl, h30n⟩ B353 hF
            have sB353 := B353.size
            have hB := hB.trans (B353.mono hB.size)
            have m3 := m3.old B353
            have m4 := m4.old B353
            have m5 := m5.old B353
            have m8 := m8.old B353
            have h26 := h26.below B353
            have h27 := h27.below B353
            have hS := hS.below B353
            have h30 := h30n.valid
            have h130 := h30n.rs.one1
            refine s_end ⟨hS, ?_⟩
            refine d_two 9 10 (by kernel_rfl) ?_ ?_
            · refine d_op 9 (some 32) (Go.Op.call (Go.Call.mk (Go.Callee.value (Go.Operand.func 32)) #[(Go.Operand.tmp 30), (Go.Operand.tmp 31)] #[24, 24])) (by kernel_rfl) fun ty pos af => ?_
              refine s_callR (R := fun u w' => ∃ z, u = lv z ∧ RSn w' (fun k => w352.heap.size ≤ k) (.mx (.mx r p) (q)) z) [_, _] hF (enters_of Try.func32 (by kernel_rfl) rfl) rfl (by decide) (Max32 (.mx r p) (q) t30 y w352 h30.rs (RS.below hB hq) brp.1 brp.2 bq.1 bq.2) ?_
              rintro _ w354 a ⟨t32, rfl, h32n⟩ B355 hF
              have sB355 := B355.size
              have hB := hB.trans (B355.mono hB.size)
              have m3 := m3.old B355
              have m4 := m4.old B355
              have m5 := m5.old B355
              have m8 := m8.old B355
              have h26 := h26.below B355
              have h27 := h27.below B355
              have h30 := h30.below B355
              have hS := hS.below B355
              have h32 := h32n.valid
              have h132 := h32n.rs.one1
              refine s_end ⟨hS, ?_⟩
              refine d_one 10 (some 7) (Go.Op.alloc 24) (by kernel_rfl) (by kernel_rfl) fun ty pos af => ?_
              refine s_alloc hF (by decide) zero24 fun w356 b7 a eb7 m7 B357 zb7 hF => ?_
              have sB357 := B357.size
              have hB := hB.trans (B357.mono hB.size)
              have m3 := m3.old B357
              have m4 := m4.old B357
              have m5 := m5.old B357
              have m8 := m8.old B357
              have h26 := h26.below B357
              have h27 := h27.below B357
              have h30 := h30.below B357
              have h32 := h32.below B357
              have hS := hS.below B357
              refine s_end ⟨hS, ?_⟩
              refine d_one 12 none (Go.Op.store 24 (Go.Operand.tmp 7) (Go.Operand.tmp 27)) (by kernel_rfl) (by kernel_rfl) fun ty pos af => ?_
              refine s_putW hF rfl rfl (size_wide wide24) m7 rfl (one_lc h127) fun w358 m7 o359 => ?_
              have so359 := o359.size
              have hB := hB.trans (o359.below (by omega))
              have m3 := m3.only o359 (by omega)
              have m4 := m4.only o359 (by omega)
              have m5 := m5.only o359 (by omega)
              have m8 := m8.only o359 (by omega)
              have h26 := h26.only o359 (fun k (hk : w346.heap.size ≤ k ∧ k < w348.heap.size) => by omega)
              have h27 := h27.only o359 (fun k (hk : w348.heap.size ≤ k ∧ k < w350.heap.size) => by omega)
              have h30 := h30.only o359 (fun k (hk : w350.heap.size ≤ k ∧ k < w352.heap.size) => by omega)
              have h32 := h32.only o359 (fun k (hk : w352.heap.size ≤ k ∧ k < w354.heap.size) => by omega)
              have hS := hS.only o359 (by omega)
              refine s_end ⟨hS, ?_⟩
              refine d_one 13 none (Go.Op.store 24 (Go.Operand.tmp 8) (Go.Operand.tmp 32)) (by kernel_rfl) (by kernel_rfl) fun ty pos af => ?_
              refine s_putW hF rfl rfl (size_wide wide24) m8 rfl (one_lc h132) fun w360 m8 o361 => ?_
              have so361 := o361.size
              have hB := hB.trans (o361.below (by omega))
              have m3 := m3.only o361 (by omega)
              have m4 := m4.only o361 (by omega)
              have m5 := m5.only o361 (by omega)
              have h26 := h26.only o361 (fun k (hk : w346.heap.size ≤ k ∧ k < w348.heap.size) => by omega)
              have h27 := h27.only o361 (fun k (hk : w348.heap.size ≤ k ∧ k < w350.heap.size) => by omega)
              have h30 := h30.only o361 (fun k (hk : w350.heap.size ≤ k ∧ k < w352.heap.size) => by omega)
              have h32 := h32.only o361 (fun k (hk : w352.heap.size ≤ k ∧ k < w354.heap.size) => by omega)
              have m7 := m7.only o361 (by omega)
              have hS := hS.only o361 (by omega)
              refine s_end ⟨hS, ?_⟩
              refine d_end (by kernel_rfl) ?_
              exact key11 _ _ _ _ _ _ hB m3 m4 m5 m7 m8 h27.rs h32.rs (hF.sub _ rfl)
            · refine d_op 10 (some 7) (Go.Op.alloc 24) (by kernel_rfl) fun ty pos af => ?_
              refine s_alloc hF (by decide) zero24 fun w362 b7 a eb7 m7 B363 zb7 hF => ?_
              have sB363 := B363.size
              have hB := hB.trans (B363.mono hB.size)
              have m3 := m3.old B363
              have m4 := m4.old B363
              have m5 := m5.old B363
              have m8 := m8.old B363
              have h26 := h26.below B363
              have h27 := h27.below B363
              have h30 := h30.below B363
              have hS := hS.below B363
              refine s_end ⟨hS, ?_⟩
              refine d_one 9 (some 32) (Go.Op.call (Go.Call.mk (Go.Callee.value (Go.Operand.func 32)) #[(Go.Operand.tmp 30), (Go.Operand.tmp 31)] #[24, 24])) (by kernel_rfl) (by kernel_rfl) fun ty pos af => ?_
              refine s_callR (R := fun u w' => ∃ z, u = lv z ∧ RSn w' (fun k => w362.heap.size ≤ k) (.mx (.mx r p) (q)) z) [_, _] hF (enters_of Try.func32 (by kernel_rfl) rfl) rfl (by decide) (Max32 (.mx r p) (q) t30 y w362 h30.rs (RS.below hB hq) brp.1 brp.2 bq.1 bq.2) ?_
              rintro _ w364 a ⟨t32, rfl, h32n⟩ B365 hF
              have sB365 := B365.size
              have hB := hB.trans (B365.mono hB.size)
              have m3 := m3.old B365
              have m4 := m4.old B365
              have m5 := m5.old B365
              have m8 := m8.old B365
              have h26 := h26.below B365
              have h27 := h27.below B365
              have h30 := h30.below B365
              have m7 := m7.old B365
              have hS := hS.below B365
              have h32 := h32n.valid
              have h132 := h32n.rs.one1
              refine s_end ⟨hS, ?_⟩
              refine d_one 12 none (Go.Op.store 24 (Go.Operand.tmp 7) (Go.Operand.tmp 27)) (by kernel_rfl) (by kernel_rfl) fun ty pos af => ?_
              refine s_putW hF rfl rfl (size_wide wide24) m7 rfl (one_lc h127) fun w366 m7 o367 => ?_
              have so367 := o367.size
              have hB := hB.trans (o367.below (by omega))
              have m3 := m3.only o367 (by omega)
              have m4 := m4.only o367 (by omega)
              have m5 := m5.only o367 (by omega)
              have m8 := m8.only o367 (by omega)
              have h26 := h26.only o367 (fun k (hk : w346.heap.size ≤ k ∧ k < w348.heap.size) => by omega)
              have h27 := h27.only o367 (fun k (hk : w348.heap.size ≤ k ∧ k < w350.heap.size) => by omega)
              have h30 := h30.only o367 (fun k (hk : w350.heap.size ≤ k ∧ k < w352.heap.size) => by omega)
              have h32 := h32.only o367 (fun k (hk : w362.heap.size ≤ k ∧ k < w364.heap.size) => by omega)
              have hS := hS.only o367 (by omega)
              refine s_end ⟨hS, ?_⟩
              refine d_one 13 none (Go.Op.store 24 (Go.Operand.tmp 8) (Go.Operand.tmp 32)) (by kernel_rfl) (by kernel_rfl) fun ty pos af => ?_
              refine s_putW hF rfl rfl (size_wide wide24) m8 rfl (one_lc h132) fun w368 m8 o369 => ?_
              have so369 := o369.size
              have hB := hB.trans (o369.below (by omega))
              have m3 := m3.only o369 (by omega)
              have m4 := m4.only o369 (by omega)
              have m5 := m5.only o369 (by omega)
              have h26 := h26.only o369 (fun k (hk : w346.heap.size ≤ k ∧ k < w348.heap.size) => by omega)
              have h27 := h27.only o369 (fun k (hk : w348.heap.size ≤ k ∧ k < w350.heap.size) => by omega)
              have h30 := h30.only o369 (fun k (hk : w350.heap.size ≤ k ∧ k < w352.heap.size) => by omega)
              have m7 := m7.only o369 (by omega)
              have h32 := h32.only o369 (fun k (hk : w362.heap.size ≤ k ∧ k < w364.heap.size) => by omega)
              have hS := hS.only o369 (by omega)
              refine s_end ⟨hS, ?_⟩
              refine d_end (by kernel_rfl) ?_
              exact key11 _ _ _ _ _ _ hB m3 m4 m5 m7 m8 h27.rs h32.rs (hF.sub _ rfl)
          · refine d_op 10 (some 7) (Go.Op.alloc 24) (by kernel_rfl) fun ty pos af => ?_
            refine s_alloc hF (by decide) zero24 fun w370 b7 a eb7 m7 B371 zb7 hF => ?_
            have sB371 := B371.size
            have hB := hB.trans (B371.mono hB.size)
            have m3 := m3.old B371
            have m4 := m4.old B371
            have m5 := m5.old B371
            have m8 := m8.old B371
            have h26 := h26.below B371
            have h27 := h27.below B371
            have hS := hS.below B371
            refine s_end ⟨hS, ?_⟩
            refine d_one 7 (some 30) (Go.Op.call (Go.Call.mk (Go.Callee.value (Go.Operand.func 32)) #[(Go.Operand.tmp 28), (Go.Operand.tmp 29)] #[24, 24])) (by kernel_rfl) (by kernel_rfl) fun ty pos af => ?_
            refine s_callR (R := fun u w' => ∃ z, u = lv z ∧ RSn w' (fun k => w370.heap.size ≤ k) (.mx (r) (p)) z) [_, _] hF (enters_of Try.func32 (by kernel_rfl) rfl) rfl (by decide) (Max32 (r) (p) z x w370 (RS.below hB hr) (RS.below hB hp) br.1 br.2 bp.1 bp.2) ?_
            rintro _ w372 a ⟨t30, rfl, h30n⟩ B373 hF
            have sB373 := B373.size
            have hB := hB.trans (B373.mono hB.size)
            have m3 := m3.old B373
            have m4 := m4.old B373
            have m5 := m5.old B373
            have m8 := m8.old B373
            have h26 := h26.below B373
            have h27 := h27.below B373
            have m7 := m7.old B373
            have hS := hS.below B373
            have h30 := h30n.valid
            have h130 := h30n.rs.one1
            refine s_end ⟨hS, ?_⟩
            refine d_one 9 (some 32) (Go.Op.call (Go.Call.mk (Go.Callee.value (Go.Operand.func 32)) #[(Go.Operand.tmp 30), (Go.Operand.tmp 31)] #[24, 24])) (by kernel_rfl) (by kernel_rfl) fun ty pos af => ?_
            refine s_callR (R := fun u w' => ∃ z, u = lv z ∧ RSn w' (fun k => w372.heap.size ≤ k) (.mx (.mx r p) (q)) z) [_, _] hF (enters_of Try.func32 (by kernel_rfl) rfl) rfl (by decide) (Max32 (.mx r p) (q) t30 y w372 h30.rs (RS.below hB hq) brp.1 brp.2 bq.1 bq.2) ?_
            rintro _ w374 a ⟨t32, rfl, h32n⟩ B375 hF
            have sB375 := B375.size
            have hB := hB.trans (B375.mono hB.size)
            have m3 := m3.old B375
            have m4 := m4.old B375
            have m5 := m5.old B375
            have m8 := m8.old B375
            have h26 := h26.below B375
            have h27 := h27.below B375
            have m7 := m7.old B375
            have h30 := h30.below B375
            have hS := hS.below B375
            have h32 := h32n.valid
            have h132 := h32n.rs.one1
            refine s_end ⟨hS, ?_⟩
            refine d_one 12 none (Go.Op.store 24 (Go.Operand.tmp 7) (Go.Operand.tmp 27)) (by kernel_rfl) (by kernel_rfl) fun ty pos af => ?_
            refine s_putW hF rfl rfl (size_wide wide24) m7 rfl (one_lc h127) fun w376 m7 o377 => ?_
            have so377 := o377.size
            have hB := hB.trans (o377.below (by omega))
            have m3 := m3.only o377 (by omega)
            have m4 := m4.only o377 (by omega)
            have m5 := m5.only o377 (by omega)
            have m8 := m8.only o377 (by omega)
            have h26 := h26.only o377 (fun k (hk : w346.heap.size ≤ k ∧ k < w348.heap.size) => by omega)
            have h27 := h27.only o377 (fun k (hk : w348.heap.size ≤ k ∧ k < w350.heap.size) => by omega)
            have h30 := h30.only o377 (fun k (hk : w370.heap.size ≤ k ∧ k < w372.heap.size) => by omega)
            have h32 := h32.only o377 (fun k (hk : w372.heap.size ≤ k ∧ k < w374.heap.size) => by omega)
            have hS := hS.only o377 (by omega)
            refine s_end ⟨hS, ?_⟩
            refine d_one 13 none (Go.Op.store 24 (Go.Operand.tmp 8) (Go.Operand.tmp 32)) (by kernel_rfl) (by kernel_rfl) fun ty pos af => ?_
            refine s_putW hF rfl rfl (size_wide wide24) m8 rfl (one_lc h132) fun w378 m8 o379 => ?_
            have so379 := o379.size
            have hB := hB.trans (o379.below (by omega))
            have m3 := m3.only o379 (by omega)
            have m4 := m4.only o379 (by omega)
            have m5 := m5.only o379 (by omega)
            have h26 := h26.only o379 (fun k (hk : w346.heap.size ≤ k ∧ k < w348.heap.size) => by omega)
            have h27 := h27.only o379 (fun k (hk : w348.heap.size ≤ k ∧ k < w350.heap.size) => by omega)
            have m7 := m7.only o379 (by omega)
            have h30 := h30.only o379 (fun k (hk : w370.heap.size ≤ k ∧ k < w372.heap.size) => by omega)
            have h32 := h32.only o379 (fun k (hk : w372.heap.size ≤ k ∧ k < w374.heap.size) => by omega)
            have hS := hS.only o379 (by omega)
            refine s_end ⟨hS, ?_⟩
            refine d_end (by kernel_rfl) ?_
            exact key11 _ _ _ _ _ _ hB m3 m4 m5 m7 m8 h27.rs h32.rs (hF.sub _ rfl)
        · refine d_op 10 (some 7) (Go.Op.alloc 24) (by kernel_rfl) fun ty pos af => ?_
          refine s_alloc hF (by decide) zero24 fun w380 b7 a eb7 m7 B381 zb7 hF => ?_
          have sB381 := B381.size
          have hB := hB.trans (B381.mono hB.size)
          have m3 := m3.old B381
          have m4 := m4.old B381
          have m5 := m5.old B381
          have m8 := m8.old B381
          have h26 := h26.below B381
          have hS := hS.below B381
          refine s_end ⟨hS, ?_⟩
          refine d_one 4 (some 27) (Go.Op.call (Go.Call.mk (Go.Callee.value (Go.Operand.func 32)) #[(Go.Operand.tmp 23), (Go.Operand.tmp 26)] #[24, 24])) (by kernel_rfl) (by kernel_rfl) fun ty pos af => ?_
          refine s_callR (R := fun u w' => ∃ z, u = lv z ∧ RSn w' (fun k => w380.heap.size ≤ k) (.mx (p) (.mx q r)) z) [_, _] hF (enters_of Try.func32 (by kernel_rfl) rfl) rfl (by decide) (Max32 (p) (.mx q r) x t26 w380 (RS.below hB hp) h26.rs bp.1 bp.2 bqr.1 bqr.2) ?_
          rintro _ w382 a ⟨t27, rfl, h27n⟩ B383 hF
          have sB383 := B383.size
          have hB := hB.trans (B383.mono hB.size)
          have m3 := m3.old B383
          have m4 := m4.old B383
          have m5 := m5.old B383
          have m8 := m8.old B383
          have h26 := h26.below B383
          have m7 := m7.old B383
          have hS := hS.below B383
          have h27 := h27n.valid
          have h127 := h27n.rs.one1
          refine s_end ⟨hS, ?_⟩
          refine d_one 7 (some 30) (Go.Op.call (Go.Call.mk (Go.Callee.value (Go.Operand.func 32)) #[(Go.Operand.tmp 28), (Go.Operand.tmp 29)] #[24, 24])) (by kernel_rfl) (by kernel_rfl) fun ty pos af => ?_
          refine s_callR (R := fun u w' => ∃ z, u = lv z ∧ RSn w' (fun k => w382.heap.size ≤ k) (.mx (r) (p)) z) [_, _] hF (enters_of Try.func32 (by kernel_rfl) rfl) rfl (by decide) (Max32 (r) (p) z x w382 (RS.below hB hr) (RS.below hB hp) br.1 br.2 bp.1 bp.2) ?_
          rintro _ w384 a ⟨t30, rfl, h30n⟩ B385 hF
          have sB385 := B385.size
          have hB := hB.trans (B385.mono hB.size)
          have m3 := m3.old B385
          have m4 := m4.old B385
          have m5 := m5.old B385
          have m8 := m8.old B385
          have h26 := h26.below B385
          have m7 := m7.old B385
          have h27 := h27.below B385
          have hS := hS.below B385
          have h30 := h30n.valid
          have h130 := h30n.rs.one1
          refine s_end ⟨hS, ?_⟩
          refine d_one 9 (some 32) (Go.Op.call (Go.Call.mk (Go.Callee.value (Go.Operand.func 32)) #[(Go.Operand.tmp 30), (Go.Operand.tmp 31)] #[24, 24])) (by kernel_rfl) (by kernel_rfl) fun ty pos af => ?_
          refine s_callR (R := fun u w' => ∃ z, u = lv z ∧ RSn w' (fun k => w384.heap.size ≤ k) (.mx (.mx r p) (q)) z) [_, _] hF (enters_of Try.func32 (by kernel_rfl) rfl) rfl (by decide) (Max32 (.mx r p) (q) t30 y w384 h30.rs (RS.below hB hq) brp.1 brp.2 bq.1 bq.2) ?_
          rintro _ w386 a ⟨t32, rfl, h32n⟩ B387 hF
          have sB387 := B387.size
          have hB := hB.trans (B387.mono hB.size)
          have m3 := m3.old B387
          have m4 := m4.old B387
          have m5 := m5.old B387
          have m8 := m8.old B387
          have h26 := h26.below B387
          have m7 := m7.old B387
          have h27 := h27.below B387
          have h30 := h30.below B387
          have hS := hS.below B387
          have h32 := h32n.valid
          have h132 := h32n.rs.one1
          refine s_end ⟨hS, ?_⟩
          refine d_one 12 none (Go.Op.store 24 (Go.Operand.tmp 7) (Go.Operand.tmp 27)) (by kernel_rfl) (by kernel_rfl) fun ty pos af => ?_
          refine s_putW hF rfl rfl (size_wide wide24) m7 rfl (one_lc h127) fun w388 m7 o389 => ?_
          have so389 := o389.size
          have hB := hB.trans (o389.below (by omega))
          have m3 := m3.only o389 (by omega)
          have m4 := m4.only o389 (by omega)
          have m5 := m5.only o389 (by omega)
          have m8 := m8.only o389 (by omega)
          have h26 := h26.only o389 (fun k (hk : w346.heap.size ≤ k ∧ k < w348.heap.size) => by omega)
          have h27 := h27.only o389 (fun k (hk : w380.heap.size ≤ k ∧ k < w382.heap.size) => by omega)
          have h30 := h30.only o389 (fun k (hk : w382.heap.size ≤ k ∧ k < w384.heap.size) => by omega)
          have h32 := h32.only o389 (fun k (hk : w384.heap.size ≤ k ∧ k < w386.heap.size) => by omega)
          have hS := hS.only o389 (by omega)
          refine s_end ⟨hS, ?_⟩
          refine d_one 13 none (Go.Op.store 24 (Go.Operand.tmp 8) (Go.Operand.tmp 32)) (by kernel_rfl) (by kernel_rfl) fun ty pos af => ?_
          refine s_putW hF rfl rfl (size_wide wide24) m8 rfl (one_lc h132) fun w390 m8 o391 => ?_
          have so391 := o391.size
          have hB := hB.trans (o391.below (by omega))
          have m3 := m3.only o391 (by omega)
          have m4 := m4.only o391 (by omega)
          have m5 := m5.only o391 (by omega)
          have h26 := h26.only o391 (fun k (hk : w346.heap.size ≤ k ∧ k < w348.heap.size) => by omega)
          have m7 := m7.only o391 (by omega)
          have h27 := h27.only o391 (fun k (hk : w380.heap.size ≤ k ∧ k < w382.heap.size) => by omega)
          have h30 := h30.only o391 (fun k (hk : w382.heap.size ≤ k ∧ k < w384.heap.size) => by omega)
          have h32 := h32.only o391 (fun k (hk : w384.heap.size ≤ k ∧ k < w386.heap.size) => by omega)
          have hS := hS.only o391 (by omega)
          refine s_end ⟨hS, ?_⟩
          refine d_end (by kernel_rfl) ?_
          exact key11 _ _ _ _ _ _ hB m3 m4 m5 m7 m8 h27.rs h32.rs (hF.sub _ rfl)
      · refine d_op 10 (some 7) (Go.Op.alloc 24) (by kernel_rfl) fun ty pos af => ?_
        refine s_alloc hF (by decide) zero24 fun w392 b7 a eb7 m7 B393 zb7 hF => ?_
        have sB393 := B393.size
        have hB := hB.trans (B393.mono hB.size)
        have m3 := m3.old B393
        have m4 := m4.old B393
        have m5 := m5.old B393
        have m8 := m8.old B393
        have hS := hS.below B393
        refine s_end ⟨hS, ?_⟩
        refine d_one 3 (some 26) (Go.Op.call (Go.Call.mk (Go.Callee.value (Go.Operand.func 32)) #[(Go.Operand.tmp 24), (Go.Operand.tmp 25)] #[24, 24])) (by kernel_rfl) (by kernel_rfl) fun ty pos af => ?_
        refine s_callR (R := fun u w' => ∃ z, u = lv z ∧ RSn w' (fun k => w392.heap.size ≤ k) (.mx (q) (r)) z) [_, _] hF (enters_of Try.func32 (by kernel_rfl) rfl) rfl (by decide) (Max32 (q) (r) y z w392 (RS.below hB hq) (RS.below hB hr) bq.1 bq.2 br.1 br.2) ?_
        rintro _ w394 a ⟨t26, rfl, h26n⟩ B395 hF
        have sB395 := B395.size
        have hB := hB.trans (B395.mono hB.size)
        have m3 := m3.old B395
        have m4 := m4.old B395
        have m5 := m5.old B395
        have m8 := m8.old B395
        have m7 := m7.old B395
        have hS := hS.below B395
        have h26 := h26n.valid
        have h126 := h26n.rs.one1
        refine s_end ⟨hS, ?_⟩
        refine d_one 4 (some 27) (Go.Op.call (Go.Call.mk (Go.Callee.value (Go.Operand.func 32)) #[(Go.Operand.tmp 23), (Go.Operand.tmp 26)] #[24, 24])) (by kernel_rfl) (by kernel_rfl) fun ty pos af => ?_
        refine s_callR (R := fun u w' => ∃ z, u = lv z ∧ RSn w' (fun k => w394.heap.size ≤ k) (.mx (p) (.mx q r)) z) [_, _] hF (enters_of Try.func32 (by kernel_rfl) rfl) rfl (by decide) (Max32 (p) (.mx q r) x t26 w394 (RS.below hB hp) h26.rs bp.1 bp.2 bqr.1 bqr.2) ?_
        rintro _ w396 a ⟨t27, rfl, h27n⟩ B397 hF
        have sB397 := B397.size
        have hB := hB.trans (B397.mono hB.size)
        have m3 := m3.old B397
        have m4 := m4.old B397
        have m5 := m5.old B397
        have m8 := m8.old B397
        have m7 := m7.old B397
        have h26 := h26.below B397
        have hS := hS.below B397
        have h27 := h27n.valid
        have h127 := h27n.rs.one1
        refine s_end ⟨hS, ?_⟩
        refine d_one 7 (some 30) (Go.Op.call (Go.Call.mk (Go.Callee.value (Go.Operand.func 32)) #[(Go.Operand.tmp 28), (Go.Operand.tmp 29)] #[24, 24])) (by kernel_rfl) (by kernel_rfl) fun ty pos af => ?_
        refine s_callR (R := fun u w' => ∃ z, u = lv z ∧ RSn w' (fun k => w396.heap.size ≤ k) (.mx (r) (p)) z) [_, _] hF (enters_of Try.func32 (by kernel_rfl) rfl) rfl (by decide) (Max32 (r) (p) z x w396 (RS.below hB hr) (RS.below hB hp) br.1 br.2 bp.1 bp.2) ?_
        rintro _ w398 a ⟨t30, rfl, h30n⟩ B399 hF
        have sB399 := B399.size
        have hB := hB.trans (B399.mono hB.size)
        have m3 := m3.old B399
        have m4 := m4.old B399
        have m5 := m5.old B399
        have m8 := m8.old B399
        have m7 := m7.old B399
        have h26 := h26.below B399
        have h27 := h27.below B399
        have hS := hS.below B399
        have h30 := h30n.valid
        have h130 := h30n.rs.one1
        refine s_end ⟨hS, ?_⟩
        refine d_one 9 (some 32) (Go.Op.call (Go.Call.mk (Go.Callee.value (Go.Operand.func 32)) #[(Go.Operand.tmp 30), (Go.Operand.tmp 31)] #[24, 24])) (by kernel_rfl) (by kernel_rfl) fun ty pos af => ?_
        refine s_callR (R := fun u w' => ∃ z, u = lv z ∧ RSn w' (fun k => w398.heap.size ≤ k) (.mx (.mx r p) (q)) z) [_, _] hF (enters_of Try.func32 (by kernel_rfl) rfl) rfl (by decide) (Max32 (.mx r p) (q) t30 y w398 h30.rs (RS.below hB hq) brp.1 brp.2 bq.1 bq.2) ?_
        rintro _ w400 a ⟨t32, rfl, h32n⟩ B401 hF
        have sB401 := B401.size
        have hB := hB.trans (B401.mono hB.size)
        have m3 := m3.old B401
        have m4 := m4.old B401
        have m5 := m5.old B401
        have m8 := m8.old B401
        have m7 := m7.old B401
        have h26 := h26.below B401
        have h27 := h27.below B401
        have h30 := h30.below B401
        have hS := hS.below B401
        have h32 := h32n.valid
        have h132 := h32n.rs.one1
        refine s_end ⟨hS, ?_⟩
        refine d_one 12 none (Go.Op.store 24 (Go.Operand.tmp 7) (Go.Operand.tmp 27)) (by kernel_rfl) (by kernel_rfl) fun ty pos af => ?_
        refine s_putW hF rfl rfl (size_wide wide24) m7 rfl (one_lc h127) fun w402 m7 o403 => ?_
        have so403 := o403.size
        have hB := hB.trans (o403.below (by omega))
        have m3 := m3.only o403 (by omega)
        have m4 := m4.only o403 (by omega)
        have m5 := m5.only o403 (by omega)
        have m8 := m8.only o403 (by omega)
        have h26 := h26.only o403 (fun k (hk : w392.heap.size ≤ k ∧ k < w394.heap.size) => by omega)
        have h27 := h27.only o403 (fun k (hk : w394.heap.size ≤ k ∧ k < w396.heap.size) => by omega)
        have h30 := h30.only o403 (fun k (hk : w396.heap.size ≤ k ∧ k < w398.heap.size) => by omega)
        have h32 := h32.only o403 (fun k (hk : w398.heap.size ≤ k ∧ k < w400.heap.size) => by omega)
        have hS := hS.only o403 (by omega)
        refine s_end ⟨hS, ?_⟩
        refine d_one 13 none (Go.Op.store 24 (Go.Operand.tmp 8) (Go.Operand.tmp 32)) (by kernel_rfl) (by kernel_rfl) fun ty pos af => ?_
        refine s_putW hF rfl rfl (size_wide wide24) m8 rfl (one_lc h132) fun w404 m8 o405 => ?_
        have so405 := o405.size
        have hB := hB.trans (o405.below (by omega))
        have m3 := m3.only o405 (by omega)
        have m4 := m4.only o405 (by omega)
        have m5 := m5.only o405 (by omega)
        have m7 := m7.only o405 (by omega)
        have h26 := h26.only o405 (fun k (hk : w392.heap.size ≤ k ∧ k < w394.heap.size) => by omega)
        have h27 := h27.only o405 (fun k (hk : w394.heap.size ≤ k ∧ k < w396.heap.size) => by omega)
        have h30 := h30.only o405 (fun k (hk : w396.heap.size ≤ k ∧ k < w398.heap.size) => by omega)
        have h32 := h32.only o405 (fun k (hk : w398.heap.size ≤ k ∧ k < w400.heap.size) => by omega)
        have hS := hS.only o405 (by omega)
        refine s_end ⟨hS, ?_⟩
        refine d_end (by kernel_rfl) ?_
        exact key11 _ _ _ _ _ _ hB m3 m4 m5 m7 m8 h27.rs h32.rs (hF.sub _ rfl)
end Go.Proofs.Ytnnkggfhhkhnmaa
