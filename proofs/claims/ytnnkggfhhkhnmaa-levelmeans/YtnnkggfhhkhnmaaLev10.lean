/- level, Reduce; the reference's Level. -/
import Derived.Test.YtnnkggfhhkhnmaaLev9
namespace Go.Proofs.Ytnnkggfhhkhnmaa
open Go.RowKit Go.Shelf
set_option linter.unusedVariables false
set_option linter.unusedSimpArgs false

theorem fm3_drop : ∀ (xs : List C3), (xs.drop 1).flatMap lc = (xs.flatMap lc).drop (1 * 3)
  | [] => rfl
  | x :: xs => by simp [lc]
theorem rd_tail {W : World} {a : Option Addr} {N c : Nat} {zs : List C3} (h : Rd W (.slice a N c) 3 zs.length (zs.flatMap lc)) (hz : 0 < zs.length) : Rd W (.slice (if c = 1 then a else a.map (·.add (1 * 3))) (N - 1) (c - 1)) 3 (zs.drop 1).length ((zs.drop 1).flatMap lc) := by
  have := h.from 1 (by omega)
  rw [fm3_drop, List.length_drop]
  exact this
theorem fold_snoc {ps : List SL} {i : Nat} {p q : SL} (h : ps[i]? = some q) : (ps.take (i + 1)).foldl SL.mx p = .mx ((ps.take i).foldl SL.mx p) q := by
  rw [List.take_add_one, h, List.foldl_append]
  rfl
theorem levF_eq {c : Int} {ks : List Int} {ps : List SL} {p : SL} (h : pts c ks ks.length = ps) (h0 : ps[0]? = some p) : levF c ks = (ps.drop 1).foldl SL.mx p := by
  unfold levF
  rw [h]
  cases ps with
  | nil => simp at h0
  | cons q qs => simp at h0; subst h0; rfl

set_option maxRecDepth 100000 in
set_option maxHeartbeats 1600000 in
theorem level41 (c : Int) (ks : List Int) (v : Value) (w0 : World) (hc : 0 ≤ c) (hl : ks.length ≤ 1001) (hLo : Lo ks) (hTm : Tm ks) (hV : Rd w0 v 1 ks.length (ints ks)) : Calls Try.prog 41 #[.agg [.int .i64 c, v].toArray] w0 fun e w' => ∃ u, e = .returned u ∧ (∃ z, u = lv z ∧ RSn w' (fun k => w0.heap.size ≤ k) (levF c ks) z) ∧ Below w0.heap.size w0 w' := by
  have hB := Below.refl w0.heap.size w0
  have sB := hB.size
  refine calls_fs 24 [(0, .agg [.int .i64 c, v].toArray)] Try.func41 rfl rfl rfl rfl rfl fun a hF => ?_
  refine wp_rs fun K1 hK1 => ?_
  refine s_box ([.int .i64 c, v]) hF (by decide) rfl rfl fun w2 b1 a eb1 m1 B3 zb1 hF => ?_
  have sB3 := B3.size
  have hB := hB.trans (B3.mono hB.size)
  refine s_alloc hF (by decide) zero24 fun w4 b2 a eb2 m2 B5 zb2 hF => ?_
  have sB5 := B5.size
  have hB := hB.trans (B5.mono hB.size)
  have m1 := m1.old B5
  refine s_end (hK1 _ _ ?_)
  refine wp_rs fun K2 hK2 => ?_
  refine s_val hF (x_ldW wide59 m1 rfl rfl) (by decide) fun a hF => ?_
  refine s_callR (R := fun u w' => ∃ zs, Rd w' u 3 zs.length (zs.flatMap lc) ∧ PL w' (fun k => w4.heap.size ≤ k) zs (pts c ks ks.length)) [_] hF (enters_of Try.func60 (by kernel_rfl) rfl) rfl (by decide) (parts60 c ks v w4 hc hl hLo (hV.below hB)) ?_
  rintro vv w6 a ⟨zs, hVp, hPq⟩ B7 hF
  have sB7 := B7.size
  have hB := hB.trans (B7.mono hB.size)
  have m1 := m1.old B7
  have m2 := m2.old B7
  have hPp := hPq.valid.mono (B := fun k => w0.heap.size ≤ k ∧ k ≠ b2 ∧ k < w6.heap.size) (fun k h => ⟨Nat.le_trans (by omega : w0.heap.size ≤ w4.heap.size) h.1, by have := h.1; omega, h.2⟩)
  clear hPq
  have hple := pts_le c ks ks.length
  have hBP := Below.refl w6.heap.size w6
  have hppos := pts_pos (c := c) hTm
  have hPl := hPp.1
  obtain ⟨b8, off8, c8, z0, hve, hz0, hrow0⟩ := rd_row3 hVp (i := 0) (by omega)
  cases hve
  obtain ⟨p0, hp0e, hz0r⟩ := hPp.at hz0
  have h1z0 := hz0r.rs.one1
  refine s_val hF (x_assign rfl) (by decide) fun a hF => ?_
  refine s_end (hK2 _ _ ?_)
  refine wp_rs fun K3 hK3 => ?_
  refine s_val hF (x_move rfl) (by decide) fun a hF => ?_
  refine s_val hF (x_ixa rfl rfl (m_ixsK 0 Try.underlying22 el22.size rfl (by omega))) (by decide) fun a hF => ?_
  refine s_val hF (x_ldA wide24 (hrow0 _ hBP) rfl rfl) (by decide) fun a hF => ?_
  refine s_alloc hF (by decide) zero24 fun w8 b4 a eb4 m4 B9 zb4 hF => ?_
  have sB9 := B9.size
  have hB := hB.trans (B9.mono hB.size)
  have hBP := hBP.trans (B9.mono hBP.size)
  have m1 := m1.old B9
  have m2 := m2.old B9
  refine s_putW hF rfl rfl (size_wide wide24) m4 rfl (one_lc h1z0) fun w10 m4 o11 => ?_
  have so11 := o11.size
  have hB := hB.trans (o11.below (by omega))
  have hBP := hBP.trans (o11.below (by omega))
  have m1 := m1.only o11 (by omega)
  have m2 := m2.only o11 (by omega)
  refine s_end (hK3 _ _ ?_)
  refine wp_seq_k fun K4 hK4 => ?_
  have hV2 := rd_tail hVp (by omega)
  obtain ⟨a2, ha2⟩ : ∃ a2, a2 = (if c8 = 1 then some (⟨b8, off8, none⟩ : Addr) else (some (⟨b8, off8, none⟩ : Addr)).map (·.add (1 * 3))) := ⟨_, rfl⟩
  rw [← ha2] at hV2
  have hdl : (zs.drop 1).length = zs.length - 1 := by rw [List.length_drop]
  have hb4 := m4.lt
  have hbb : w0.heap.size ≤ b2 ∧ b2 < b4 := ⟨by omega, by omega⟩
  refine wp_rs fun K5 hK5 => ?_
  refine s_val hF (x_move rfl) (by decide) fun a hF => ?_
  refine s_val hF (x_slice (v := .slice a2 (zs.length - 1) (c8 - 1)) (vlo := some (.int .i64 1)) (vhi := none) (vmx := none) rfl rfl rfl rfl (by rw [ha2]; exact m_sliceFK 1 Try.underlying22 el22.size rfl (by omega))) (by decide) fun a hF => ?_
  refine s_val hF (x_len Try.underlying22 rfl) (by decide) fun a hF => ?_
  refine s_val hF (x_move rfl) (by decide) fun a hF => ?_
  refine s_end (hK5 _ _ ?_)
  refine wp_block ?_
  refine wp_up (zs.length - 1) (fun i a w => ∃ z, Blk w b4 24 (lc z) ∧ RSn w (fun k => w0.heap.size ≤ k ∧ k ≠ b2 ∧ k ≠ b4) ((((pts c ks ks.length).drop 1).take i).foldl SL.mx p0) z ∧ Blk w b2 24 [.int .i64 0, .int .i64 0, .slice none 0 0] ∧ Below w0.heap.size w0 w ∧ Below w6.heap.size w6 w ∧ Fs 24 a [(15, .int .i64 (i : Int)), (14, .int .i64 ((zs.length - 1 : Nat) : Int)), (13, .slice a2 (zs.length - 1) (c8 - 1)), (4, .pointer (some ⟨b4, 0, none⟩)), (2, .pointer (some ⟨b2, 0, none⟩))]) ⟨z0, m4, (hz0r.below hBP).mono (fun k h => ⟨h.1, h.2.1, by have := h.2.2; omega⟩), m2, hB, hBP, hF.sub _ rfl⟩ ?_
  repeat clear hF
  clear hB hBP m4 m2
  rintro i a w hi ⟨z, m4, hz, m2, hB, hBP, hF⟩ K' hK'
  have sB := hB.size
  have sBP := hBP.size
  have hml := m4.lt
  obtain ⟨top2, htop2⟩ : ∃ h, h = w.heap.size := ⟨_, rfl⟩
  have hz := hz.valid.mono (B := fun k => w0.heap.size ≤ k ∧ k ≠ b2 ∧ k ≠ b4 ∧ k < top2) (fun k h => ⟨h.1.1, h.1.2.1, h.1.2.2, by have := h.2; omega⟩)
  refine wp_rs fun K6 hK6 => ?_
  refine s_val hF (x_lss (b := decide (i < zs.length - 1)) (decide_eq_decide.2 (by omega)) rfl rfl) (by decide) fun a hF => ?_
  refine s_end (hK6 _ _ ?_)
  refine wp_seq_k fun K7 hK7 => ?_
  refine wp_iff hF rfl (fun hc16 => ?_) (fun hc16 => ?_)
  · obtain ⟨b9, off9, c9, y, hve, hy, hrow⟩ := rd_row3 hV2 (i := i) (by omega)
    rw [hdl] at hve
    cases hve
    have hy1 : zs[i + 1]? = some y := by rw [List.getElem?_drop, Nat.add_comm] at hy; exact hy
    obtain ⟨q, hq1, hyr⟩ := hPp.at hy1
    have hq2 : ((pts c ks ks.length).drop 1)[i]? = some q := by rw [List.getElem?_drop, Nat.add_comm]; exact hq1
    have h1y := hyr.rs.one1
    have h1z := hz.rs.one1
    refine wp_skip (hK7 _ _ ?_)
    refine wp_seq_k fun K8 hK8 => ?_
    refine wp_block ?_
    refine wp_rs fun K9 hK9 => ?_
    refine s_val hF (x_ixa rfl rfl (m_ixsK i Try.underlying22 el22.size rfl (by omega))) (by decide) fun a hF => ?_
    refine s_val hF (x_ldA wide24 (hrow _ hBP) rfl rfl) (by decide) fun a hF => ?_
    refine s_alloc hF (by decide) zero24 fun w12 b6 a eb6 m6 B13 zb6 hF => ?_
    have sB13 := B13.size
    have hB := hB.trans (B13.mono hB.size)
    have hBP := hBP.trans (B13.mono hBP.size)
    have m4 := m4.old B13
    have m2 := m2.old B13
    have hz := hz.below B13
    refine s_putW hF rfl rfl (size_wide wide24) m6 rfl (one_lc h1y) fun w14 m6 o15 => ?_
    have so15 := o15.size
    have hB := hB.trans (o15.below (by omega))
    have hBP := hBP.trans (o15.below (by omega))
    have m4 := m4.only o15 (by omega)
    have m2 := m2.only o15 (by omega)
    have hz := hz.only o15 (fun k (hk : w0.heap.size ≤ k ∧ k ≠ b2 ∧ k ≠ b4 ∧ k < top2) => by omega)
    refine s_end (hK9 _ _ ?_)
    refine wp_region_lit ?_
    refine s_val hF (x_ldW wide24 m4 rfl rfl) (by decide) fun a hF => ?_
    refine s_val hF (x_ldW wide24 m6 rfl rfl) (by decide) fun a hF => ?_
    refine s_callR (R := fun v w' => ∃ z', v = lv z' ∧ RSn w' (fun k => (w0.heap.size ≤ k ∧ k ≠ b2 ∧ k ≠ b4) ∨ w14.heap.size ≤ k) (.mx ((((pts c ks ks.length).drop 1).take i).foldl SL.mx p0) q) z') [_, _] hF (enters_of Try.func52 (by kernel_rfl) rfl) rfl (by decide) (join52n (fun k => w0.heap.size ≤ k ∧ k ≠ b2 ∧ k ≠ b4) _ q z y w14 (hz.mono (fun k h => ⟨h.1, h.2.1, h.2.2.1⟩)) ((hyr.below hBP).mono (fun k h => ⟨h.1, h.2.1, by have := h.2.2; omega⟩))) ?_
    rintro _ w16 a ⟨z2, rfl, hz2⟩ B17 hF
    have sB17 := B17.size
    have hB := hB.trans (B17.mono hB.size)
    have hBP := hBP.trans (B17.mono hBP.size)
    have m4 := m4.old B17
    have m2 := m2.old B17
    have hz := hz.below B17
    have m6 := m6.old B17
    have hz := hz2.mono (B := fun k => w0.heap.size ≤ k ∧ k ≠ b2 ∧ k ≠ b4) (fun k h => by rcases h with h | h; exact h; exact ⟨by omega, by omega, by omega⟩)
    clear hz2
    have h1z2 := hz.rs.one1
    refine s_putW hF rfl rfl (size_wide wide24) m4 rfl (one_lc h1z2) fun w18 m4 o19 => ?_
    have so19 := o19.size
    have hB := hB.trans (o19.below (by omega))
    have hBP := hBP.trans (o19.below (by omega))
    have m2 := m2.only o19 (by omega)
    have hz := hz.only o19 (fun k (hk : w0.heap.size ≤ k ∧ k ≠ b2 ∧ k ≠ b4) => by omega)
    have m6 := m6.only o19 (by omega)
    refine s_end (hK8 _ _ ?_)
    refine wp_region_lit ?_
    refine s_val hF (x_addn (i + 1) (by omega) (by omega) rfl rfl) (by decide) fun a hF => ?_
    refine s_val hF (x_move rfl) (by decide) fun a hF => ?_
    refine s_end (hK' _ _ (by omega) ⟨z2, m4, by rw [fold_snoc hq2]; exact hz, m2, hB, hBP, hF.sub _ rfl⟩)
  · have hPl2 := hPp.1
    have hall : ((pts c ks ks.length).drop 1).take i = (pts c ks ks.length).drop 1 := List.take_of_length_le (by rw [List.length_drop]; omega)
    rw [hall, ← levF_eq rfl hp0e] at hz
    have h1z := hz.rs.one1
    refine wp_exit (hK4 _ _ ?_)
    refine wp_rs fun K10 hK10 => ?_
    refine s_val hF (x_ldW wide24 m4 rfl rfl) (by decide) fun a hF => ?_
    refine s_putW hF rfl rfl (size_wide wide24) m2 rfl (one_lc h1z) fun w20 m2 o21 => ?_
    have so21 := o21.size
    have hB := hB.trans (o21.below (by omega))
    have m4 := m4.only o21 (by omega)
    have hz := hz.only o21 (fun k (hk : w0.heap.size ≤ k ∧ k ≠ b2 ∧ k ≠ b4 ∧ k < top2) => by omega)
    refine s_end (hK10 _ _ ?_)
    refine wp_ret (res_cell hF rfl rfl m2 wide24 ⟨_, rfl, ⟨z, rfl, hz.mono (fun k h => h.1)⟩, hB⟩)

set_option maxRecDepth 100000 in
set_option maxHeartbeats 1600000 in
theorem Reduce19 (x : C3) (l : Lv) (w0 : World) (hL : RL w0 x l) : Calls Try.prog 19 #[lv x] w0 fun e w' => ∃ u, e = .returned u ∧ (∃ z, u = lv z ∧ (¬ sndL l → z = (0, 0, .slice none 0 0)) ∧ ∀ s, RS w0 s x → s.good → RS w' (levF (nfC s) (nfK s)) z) ∧ Below w0.heap.size w0 w' := by
  have hB := Below.refl w0.heap.size w0
  have sB := hB.size
  refine calls_fs 15 [(0, lv x)] Try.func19 rfl rfl rfl rfl rfl fun a hF => ?_
  refine wp_rs fun K1 hK1 => ?_
  refine s_box (lc x) hF (by decide) rfl rfl fun w2 b1 a eb1 m1 B3 zb1 hF => ?_
  have sB3 := B3.size
  have hB := hB.trans (B3.mono hB.size)
  refine s_alloc hF (by decide) zero24 fun w4 b2 a eb2 m2 B5 zb2 hF => ?_
  have sB5 := B5.size
  have hB := hB.trans (B5.mono hB.size)
  have m1 := m1.old B5
  refine s_end (hK1 _ _ ?_)
  rcases (show decide (sndL l) = false ∨ decide (sndL l) = true by cases decide (sndL l) <;> simp) with hd | hd
  · have hn : ¬ sndL l := of_decide_eq_false hd
    refine wp_rs fun K3 hK3 => ?_
    refine s_val hF (x_ldW wide24 m1 rfl rfl) (by decide) fun a hF => ?_
    have hB9 := hB
    refine s_callR (R := fun v w' => ∃ c vk ks, v = .tuple #[.agg [.int .i64 c, vk].toArray, .bool (decide (sndL l))] ∧ FF w4 x l w' c vk ks) [_] hF (enters_of Try.func38 (by kernel_rfl) rfl) rfl (by decide) (formOf38 x l w4 (hL.old hB)) ?_
    rintro _ w6 a ⟨c1, vk1, ks1, rfl, hf1⟩ B7 hF
    have sB7 := B7.size
    have hB := hB.trans (B7.mono hB.size)
    have m1 := m1.old B7
    have m2 := m2.old B7
    have h1v1 := hf1.1.one
    have hB1 := Below.refl w6.heap.size w6
    rw [hd] at hF
    refine s_val hF (x_move rfl) (by decide) fun a hF => ?_
    refine s_val hF (x_ext rfl rfl) (by decide) fun a hF => ?_
    refine s_val hF (x_ext rfl rfl) (by decide) fun a hF => ?_
    refine s_alloc hF (by decide) zero59 fun w8 b3 a eb3 m3 B9 zb3 hF => ?_
    have sB9 := B9.size
    have hB := hB.trans (B9.mono hB.size)
    have hB1 := hB1.trans (B9.mono hB1.size)
    have m1 := m1.old B9
    have m2 := m2.old B9
    refine s_putW hF rfl rfl (size_wide wide59) m3 rfl (one2 h1v1) fun w10 m3 o11 => ?_
    have so11 := o11.size
    have hB := hB.trans (o11.below (by omega))
    have hB1 := hB1.trans (o11.below (by omega))
    have m1 := m1.only o11 (by omega)
    have m2 := m2.only o11 (by omega)
    refine s_val hF (x_assign rfl) (by decide) fun a hF => ?_
    refine s_end (hK3 _ _ ?_)
    refine wp_seq_k fun K4 hK4 => ?_
    refine wp_rs fun K5 hK5 => ?_
    refine s_val hF (x_move rfl) (by decide) fun a hF => ?_
    refine s_val hF (x_not rfl) (by decide) fun a hF => ?_
    refine s_end (hK5 _ _ ?_)
    refine wp_if hF rfl ?_
    refine wp_rs fun K6 hK6 => ?_
    refine s_val hF (x_build (vs := []) rfl (b24_ _)) (by decide) fun a hF => ?_
    refine s_putW hF rfl rfl (size_wide wide24) m2 rfl (one3 rfl) fun w12 m2 o13 => ?_
    have so13 := o13.size
    have hB := hB.trans (o13.below (by omega))
    have m1 := m1.only o13 (by omega)
    have m3 := m3.only o13 (by omega)
    refine s_end (hK6 _ _ ?_)
    refine wp_ret (then_ret (res_cell hF rfl rfl m2 wide24 ⟨_, rfl, ⟨(0, 0, .slice none 0 0), rfl, fun _ => rfl, fun s hs hsg => absurd (rs_snd hL hs hsg) hn⟩, hB⟩))
  · have hn : sndL l := of_decide_eq_true hd
    obtain ⟨s, hs, hsg⟩ := sound_sl hL hn
    refine wp_rs fun K7 hK7 => ?_
    refine s_val hF (x_ldW wide24 m1 rfl rfl) (by decide) fun a hF => ?_
    have hB9 := hB
    refine s_callR (R := fun v w' => ∃ c vk ks, v = .tuple #[.agg [.int .i64 c, vk].toArray, .bool (decide (sndL l))] ∧ FF w4 x l w' c vk ks) [_] hF (enters_of Try.func38 (by kernel_rfl) rfl) rfl (by decide) (formOf38 x l w4 (hL.old hB)) ?_
    rintro _ w14 a ⟨c1, vk1, ks1, rfl, hf1⟩ B15 hF
    have sB15 := B15.size
    have hB := hB.trans (B15.mono hB.size)
    have m1 := m1.old B15
    have m2 := m2.old B15
    have h1v1 := hf1.1.one
    have hB1 := Below.refl w14.heap.size w14
    rw [hd] at hF
    refine s_val hF (x_move rfl) (by decide) fun a hF => ?_
    refine s_val hF (x_ext rfl rfl) (by decide) fun a hF => ?_
    refine s_val hF (x_ext rfl rfl) (by decide) fun a hF => ?_
    refine s_alloc hF (by decide) zero59 fun w16 b3 a eb3 m3 B17 zb3 hF => ?_
    have sB17 := B17.size
    have hB := hB.trans (B17.mono hB.size)
    have hB1 := hB1.trans (B17.mono hB1.size)
    have m1 := m1.old B17
    have m2 := m2.old B17
    refine s_putW hF rfl rfl (size_wide wide59) m3 rfl (one2 h1v1) fun w18 m3 o19 => ?_
    have so19 := o19.size
    have hB := hB.trans (o19.below (by omega))
    have hB1 := hB1.trans (o19.below (by omega))
    have m1 := m1.only o19 (by omega)
    have m2 := m2.only o19 (by omega)
    refine s_val hF (x_assign rfl) (by decide) fun a hF => ?_
    refine s_end (hK7 _ _ ?_)
    refine wp_seq_k fun K8 hK8 => ?_
    refine wp_rs fun K9 hK9 => ?_
    refine s_val hF (x_move rfl) (by decide) fun a hF => ?_
    refine s_val hF (x_not rfl) (by decide) fun a hF => ?_
    refine s_end (hK9 _ _ ?_)
    refine wp_if hF rfl ?_
    refine wp_skip (hK8 _ _ ?_)
    refine wp_rs fun K10 hK10 => ?_
    refine s_val hF (x_ldW wide59 m3 rfl rfl) (by decide) fun a hF => ?_
    obtain ⟨rfl, rfl⟩ := hf1.2.2 s (RS.below hB9 hs) hsg
    refine s_callR (R := fun u w' => ∃ z, u = lv z ∧ RSn w' (fun k => w18.heap.size ≤ k) (levF (nfC s) (nfK s)) z) [_] hF (enters_of Try.func41 (by kernel_rfl) rfl) rfl (by decide) (level41 (nfC s) (nfK s) vk1 w18 (nfC_nn s) (nfK_len s hsg) (nfK_lo s) (nfK_tm s) (hf1.1.below hB1)) ?_
    rintro _ w20 a ⟨z, rfl, hz⟩ B21 hF
    have sB21 := B21.size
    have hB := hB.trans (B21.mono hB.size)
    have hB1 := hB1.trans (B21.mono hB1.size)
    have m1 := m1.old B21
    have m2 := m2.old B21
    have m3 := m3.old B21
    have h1z := hz.rs.one1
    refine s_putW hF rfl rfl (size_wide wide24) m2 rfl (one_lc h1z) fun w22 m2 o23 => ?_
    have so23 := o23.size
    have hB := hB.trans (o23.below (by omega))
    have m1 := m1.only o23 (by omega)
    have m3 := m3.only o23 (by omega)
    have hz := hz.only o23 (fun k (hk : w18.heap.size ≤ k) => by omega)
    refine s_end (hK10 _ _ ?_)
    refine wp_ret (res_cell hF rfl rfl m2 wide24 ⟨_, rfl, ⟨z, rfl, fun h => absurd hn h, fun s' hs' _ => by rw [RS.inj hs' hs]; exact hz.rs⟩, hB⟩)

set_option maxRecDepth 100000 in
set_option maxHeartbeats 1600000 in
theorem rLevel22 (c : Int) (ks : List Int) (v : Value) (w0 : World) (hc : 0 ≤ c) (hl : ks.length ≤ 1001) (hLo : Lo ks) (hTm : Tm ks) (hV : Rd w0 v 1 ks.length (ints ks)) : Calls Try.prog 22 #[.agg [.int .i64 c, v].toArray] w0 fun e w' => ∃ u, e = .returned u ∧ (∃ z, u = lv z ∧ RSn w' (fun k => w0.heap.size ≤ k) (levF c ks) z) ∧ Below w0.heap.size w0 w' := by
  obtain ⟨av, cv, rfl, _⟩ := hV.form
  have hB := Below.refl w0.heap.size w0
  have sB := hB.size
  refine calls_fs 64 [(0, .agg [.int .i64 c, .slice av ks.length cv].toArray)] Try.func22 rfl rfl rfl rfl rfl fun a hF => ?_
  refine wp_rs fun K1 hK1 => ?_
  refine s_box ([.int .i64 c, .slice av ks.length cv]) hF (by decide) rfl rfl fun w2 b1 a eb1 m1 B3 zb1 hF => ?_
  have sB3 := B3.size
  have hB := hB.trans (B3.mono hB.size)
  refine s_alloc hF (by decide) zero24 fun w4 b2 a eb2 m2 B5 zb2 hF => ?_
  have sB5 := B5.size
  have hB := hB.trans (B5.mono hB.size)
  have m1 := m1.old B5
  refine s_end (hK1 _ _ ?_)
  refine wp_rs fun K2 hK2 => ?_
  refine s_val hF (x_assign rfl) (by decide) fun a hF => ?_
  refine s_end (hK2 _ _ ?_)
  refine wp_seq_k fun K3 hK3 => ?_
  rcases (show 0 < c ∨ (c = 0 ∧ ks.length = 0) ∨ (c = 0 ∧ ks.length ≠ 0) by omega) with hq | hq | hq
  · have hp0 : pts c ks 0 = [.num c.toNat] := by rw [pts, if_pos (.inl (by omega))]
    refine wp_rs fun K5 hK5 => ?_
    refine s_val hF (x_fa0 fa36_0 rfl) (by decide) fun a hF => ?_
    refine s_val hF (x_load rfl (m_load flat3 (m1.cell (j := 0) rfl))) (by decide) fun a hF => ?_
    refine s_val hF (x_gtr (b := true) (decide_eq_true (by omega)) rfl rfl) (by decide) fun a hF => ?_
    refine s_val hF (x_move rfl) (by decide) fun a hF => ?_
    refine s_grdn 13 hF rfl rfl (by decide) fun a hF => ?_
    refine s_grdn 13 hF rfl rfl (by decide) fun a hF => ?_
    refine s_grdn 13 hF rfl rfl (by decide) fun a hF => ?_
    refine s_grdn 13 hF rfl rfl (by decide) fun a hF => ?_
    refine s_val hF (x_pick (b := true) rfl rfl) (by decide) fun a hF => ?_
    refine s_end (hK5 _ _ ?_)
    refine wp_if hF rfl ?_
    refine wp_region_lit ?_
    refine s_val hF (x_move rfl) (by decide) fun a hF => ?_
    refine s_val hF (x_fa0 fa36_0 rfl) (by decide) fun a hF => ?_
    refine s_val hF (x_load rfl (m_load flat3 (m1.cell (j := 0) rfl))) (by decide) fun a hF => ?_
    refine s_val hF (x_build (vs := [(0, _), (1, _)]) rfl (b24_01 _ _ _)) (by decide) fun a hF => ?_
    refine s_litG [lv (1, c, .slice none 0 0)] el22 hF (by decide) rfl (by simp [Value.cells, lc]) rfl (by decide) (by decide) fun w6 bl a ebl ml B7 zbl hF => ?_
    have sB7 := B7.size
    have hB := hB.trans (B7.mono hB.size)
    have m1 := m1.old B7
    have m2 := m2.old B7
    have ml : Blk w6 bl 24 (lc (1, c, .slice none 0 0)) := by simpa [Value.cells] using ml
    have hO : w6.ownsRow w0.heap.size 24 3 (.slice none 0 0) 0 [] := World.ownsRow_nil _ _ _ _
    have hat : ∀ j, (Value.slice none 0 0).ownBlock = some j → j = b1 := fun j h => by cases h
    have hne : (Value.slice none 0 0).ownBlock ≠ some b1 := fun h => by cases h
    have hm1 := m1.lt
    refine s_app1 (o := b1) el22 hF (by decide) rfl rfl hO ml rfl (one3 rfl) hat (by omega) (by omega) (by decide) (by omega) fun v3 w8 a o3 hOn hOatn how hsrc k9 hkeep hF => ?_
    have sk9 := k9.size
    have hB := k9.under hB (by omega)
    have m1 : Blk w8 b1 _ _ := (hkeep _ m1.lt hne).trans m1
    have m2 := m2.k2 k9 (by omega)
    have ml := ml.k2 k9 (by omega)
    have hO := hOn
    have hO_at := hOatn
    have hneg : v3.ownBlock ≠ some b1 := fun h => by rcases hsrc b1 h with h | h; exact hne h; omega
    refine s_val hF (x_assign rfl) (by decide) fun a hF => ?_
    refine s_end (hK3 _ _ ?_)
    refine wp_seq_k fun K6 hK6 => ?_
    refine wp_rs fun K7 hK7 => ?_
    refine s_val hF (x_fa0 fa36_1 rfl) (by decide) fun a hF => ?_
    refine s_val hF (x_load rfl (m_load flat29 (m1.cell (j := 1) rfl))) (by decide) fun a hF => ?_
    refine s_val hF (x_len Try.underlying29 rfl) (by decide) fun a hF => ?_
    refine s_val hF (x_move rfl) (by decide) fun a hF => ?_
    refine s_end (hK7 _ _ ?_)
    refine wp_block ?_
    have hJ : ∃ v' o' zs, w8.ownsRow w0.heap.size 24 3 v' zs.length (zs.flatMap lc) ∧ (∀ j, v'.ownBlock = some j → j = o') ∧ v'.ownBlock ≠ some b1 ∧ (w0.heap.size ≤ o' ∧ o' < w8.heap.size) ∧ PL w8 (fun k => b2 < k ∧ k ≠ o' ∧ k < w8.heap.size) zs (pts c ks 0) ∧ v3 = v' ∧ (o' = b1 ∨ b2 < o') := ⟨v3, o3, [(1, c, .slice none 0 0)], by simpa using hO, hO_at, hneg, by omega, by rw [hp0]; exact PL.snoc PL.nil ⟨rfl, by show c = _; omega, Rd.nil _ _⟩, rfl, by omega⟩
    obtain ⟨vj, oj, zj, hj1, hj2, hj3, hj4, hj5, hj6, hj7⟩ := hJ
    rw [hj6] at hF
    refine wp_up ks.length (fun i a w => ∃ v' o' zs, w.ownsRow w0.heap.size 24 3 v' zs.length (zs.flatMap lc) ∧ (∀ j, v'.ownBlock = some j → j = o') ∧ v'.ownBlock ≠ some b1 ∧ (w0.heap.size ≤ o' ∧ o' < w.heap.size) ∧ PL w (fun k => b2 < k ∧ k ≠ o' ∧ k < w.heap.size) zs (pts c ks i) ∧ Blk w b1 36 [.int .i64 c, .slice av ks.length cv] ∧ Blk w b2 24 [.int .i64 0, .int .i64 0, .slice none 0 0] ∧ b2 < o' + b2 + 1 ∧ (o' = b1 ∨ b2 < o') ∧ Below w0.heap.size w0 w ∧ Fs 64 a [(28, .int .i64 (i : Int)), (27, .int .i64 (ks.length : Int)), (26, .slice av ks.length cv), (3, v'), (2, .pointer (some ⟨b2, 0, none⟩))]) ⟨vj, oj, zj, hj1, hj2, hj3, hj4, hj5, m1, m2, by omega, hj7, hB, hF.sub _ rfl⟩ ?_
    repeat clear hF
    clear hB m1 m2
    rintro i a wq hi ⟨vv, o2, zs, hO, hat, hne, hlo, hP, m1, m2, _, ho2b, hB, hF⟩ K' hK'
    have sB := hB.size
    have hm1 := m1.lt
    have hm2 := m2.lt
    obtain ⟨top, htop⟩ : ∃ h, h = wq.heap.size := ⟨_, rfl⟩
    rw [← htop] at hP
    have hPl := hP.1
    have hple := pts_le c ks i
    refine wp_rs fun K8 hK8 => ?_
    refine s_val hF (x_lss rfl rfl rfl) (by decide) fun a hF => ?_
    refine s_end (hK8 _ _ ?_)
    refine wp_seq_k fun K9 hK9 => ?_
    refine wp_iff hF rfl (fun hc29 => ?_) (fun hc29 => ?_)
    · have hgi := hLo.gt i
      obtain ⟨b6, off6, c6, hve, hrowk⟩ := rd_rowI hV (i := i) (by omega)
      cases hve
      refine wp_skip (hK9 _ _ ?_)
      refine wp_seq_k fun K10 hK10 => ?_
      refine wp_block ?_
      refine wp_rs fun K11 hK11 => ?_
      refine s_val hF (x_move rfl) (by decide) fun a hF => ?_
      refine s_val hF (x_ixa rfl rfl (m_ixs i Try.underlying29 el29.size rfl (by omega))) (by decide) fun a hF => ?_
      refine s_val hF (x_load rfl (m_load flat3 (hrowk _ hB))) (by decide) fun a hF => ?_
      refine s_val hF (x_assign rfl) (by decide) fun a hF => ?_
      refine s_val hF (x_assign rfl) (by decide) fun a hF => ?_
      refine s_end (hK11 _ _ ?_)
      rcases (show gt ks i = -1 ∨ gt ks i = 0 ∨ 0 < gt ks i by omega) with hg | hg | hg
      · have hp1 : part1 i (gt ks i) = [] := by rw [part1, if_pos (by omega)]
        refine wp_rs fun K13 hK13 => ?_
        refine s_val hF (x_move rfl) (by decide) fun a hF => ?_
        refine s_val hF (x_build (vs := [(0, _), (1, _)]) rfl (b24_01 _ _ _)) (by decide) fun a hF => ?_
        refine s_alloc hF (by decide) zero24 fun w10 b6 a eb6 m6 B11 zb6 hF => ?_
        have sB11 := B11.size
        have hB := hB.trans (B11.mono hB.size)
        have m1 := m1.old B11
        have m2 := m2.old B11
        have hO := own_below hO B11
        have hP := hP.below B11
        refine s_putW hF rfl rfl (size_wide wide24) m6 rfl (one3 rfl) fun w12 m6 o13 => ?_
        have so13 := o13.size
        have hB := hB.trans (o13.below (by omega))
        have m1 := m1.only o13 (by omega)
        have m2 := m2.only o13 (by omega)
        have hO := own_only hO o13 (fun e => by have := hat _ e; omega)
        have hP := hP.only o13 (fun k (hk : b2 < k ∧ k ≠ o2 ∧ k < top) => by omega)
        refine s_end (hK13 _ _ ?_)
        refine wp_seq_k fun K14 hK14 => ?_
        refine wp_rs fun K15 hK15 => ?_
        refine s_val hF (x_move rfl) (by decide) fun a hF => ?_
        refine s_val hF (x_gtr (b := false) (decide_eq_false (by omega)) rfl rfl) (by decide) fun a hF => ?_
        refine s_end (hK15 _ _ ?_)
        refine wp_if hF rfl ?_
        refine wp_skip (hK14 _ _ ?_)
        refine wp_rs fun K16 hK16 => ?_
        refine s_val hF (x_move rfl) (by decide) fun a hF => ?_
        refine s_val hF (x_geq (b := false) (decide_eq_false (by omega)) rfl rfl) (by decide) fun a hF => ?_
        refine s_end (hK16 _ _ ?_)
        refine wp_if hF rfl ?_
        refine wp_skip (hK10 _ _ ?_)
        refine wp_region_lit ?_
        refine s_val hF (x_addn (i + 1) (by omega) (by omega) rfl rfl) (by decide) fun a hF => ?_
        refine s_val hF (x_move rfl) (by decide) fun a hF => ?_
        refine s_end (hK' _ _ (by omega) ⟨vv, o2, zs, hO, hat, hne, by omega, by rw [pts, hp1, List.append_nil]; exact hP.mono (fun k (hk : b2 < k ∧ k ≠ o2 ∧ k < top) => (by omega : _ ∧ _ ∧ _)), m1, m2, by omega, ho2b, hB, hF.sub _ rfl⟩)
      · have hp1 : part1 i (gt ks i) = [.var i] := by rw [part1, if_neg (by omega), if_pos hg]
        refine wp_rs fun K17 hK17 => ?_
        refine s_val hF (x_move rfl) (by decide) fun a hF => ?_
        refine s_val hF (x_build (vs := [(0, _), (1, _)]) rfl (b24_01 _ _ _)) (by decide) fun a hF => ?_
        refine s_alloc hF (by decide) zero24 fun w14 b6 a eb6 m6 B15 zb6 hF => ?_
        have sB15 := B15.size
        have hB := hB.trans (B15.mono hB.size)
        have m1 := m1.old B15
        have m2 := m2.old B15
        have hO := own_below hO B15
        have hP := hP.below B15
        refine s_putW hF rfl rfl (size_wide wide24) m6 rfl (one3 rfl) fun w16 m6 o17 => ?_
        have so17 := o17.size
        have hB := hB.trans (o17.below (by omega))
        have m1 := m1.only o17 (by omega)
        have m2 := m2.only o17 (by omega)
        have hO := own_only hO o17 (fun e => by have := hat _ e; omega)
        have hP := hP.only o17 (fun k (hk : b2 < k ∧ k ≠ o2 ∧ k < top) => by omega)
        refine s_end (hK17 _ _ ?_)
        refine wp_seq_k fun K18 hK18 => ?_
        refine wp_rs fun K19 hK19 => ?_
        refine s_val hF (x_move rfl) (by decide) fun a hF => ?_
        refine s_val hF (x_gtr (b := false) (decide_eq_false (by omega)) rfl rfl) (by decide) fun a hF => ?_
        refine s_end (hK19 _ _ ?_)
        refine wp_if hF rfl ?_
        refine wp_skip (hK18 _ _ ?_)
        refine wp_rs fun K20 hK20 => ?_
        refine s_val hF (x_move rfl) (by decide) fun a hF => ?_
        refine s_val hF (x_geq (b := true) (decide_eq_true (by omega)) rfl rfl) (by decide) fun a hF => ?_
        refine s_end (hK20 _ _ ?_)
        refine wp_if hF rfl ?_
        refine wp_region_lit ?_
        refine s_val hF (x_move rfl) (by decide) fun a hF => ?_
        refine s_val hF (x_ldW wide24 m6 rfl rfl) (by decide) fun a hF => ?_
        refine s_litG [lv (2, (i : Int), .slice none 0 0)] el22 hF (by decide) rfl (by simp [Value.cells, lc]) rfl (by decide) (by decide) fun w18 bl a ebl ml B19 zbl hF => ?_
        have sB19 := B19.size
        have hB := hB.trans (B19.mono hB.size)
        have m1 := m1.old B19
        have m2 := m2.old B19
        have hO := own_below hO B19
        have hP := hP.below B19
        have m6 := m6.old B19
        have ml : Blk w18 bl 24 (lc (2, (i : Int), .slice none 0 0)) := by simpa [Value.cells] using ml
        refine s_app1 (o := o2) el22 hF (by decide) rfl rfl hO ml rfl (one3 rfl) hat (by omega) (by omega) (by decide) (by omega) fun v3 w20 a o3 hOn hOatn how hsrc k21 hkeep hF => ?_
        have sk21 := k21.size
        have hB := k21.under hB (by omega)
        have m1 : Blk w20 b1 _ _ := (hkeep _ m1.lt hne).trans m1
        have m2 := m2.k2 k21 (by omega)
        have hP := hP.k2 k21 (fun k (hk : b2 < k ∧ k ≠ o2 ∧ k < top) => by omega)
        have m6 := m6.k2 k21 (by omega)
        have ml := ml.k2 k21 (by omega)
        have hO := hOn
        have hO_at := hOatn
        have hneg : v3.ownBlock ≠ some b1 := fun h => by rcases hsrc b1 h with h | h; exact hne h; omega
        refine s_val hF (x_assign rfl) (by decide) fun a hF => ?_
        refine s_end (hK10 _ _ ?_)
        refine wp_region_lit ?_
        refine s_val hF (x_addn (i + 1) (by omega) (by omega) rfl rfl) (by decide) fun a hF => ?_
        refine s_val hF (x_move rfl) (by decide) fun a hF => ?_
        refine s_end (hK' _ _ (by omega) ⟨v3, o3, zs ++ [(2, (i : Int), .slice none 0 0)], by rw [fm3_app]; simpa using hO, hO_at, hneg, by omega, by rw [pts, hp1]; exact (hP.mono (fun k (hk : b2 < k ∧ k ≠ o2 ∧ k < top) => (by omega : _ ∧ _ ∧ _))).snoc (⟨rfl, rfl, Rd.nil _ _⟩), m1, m2, by omega, by omega, hB, hF.sub _ rfl⟩)
      · have hp1 : part1 i (gt ks i) = [.succ (gt ks i).toNat (.var i)] := by rw [part1, if_neg (by omega), if_neg (by omega)]
        refine wp_rs fun K21 hK21 => ?_
        refine s_val hF (x_move rfl) (by decide) fun a hF => ?_
        refine s_val hF (x_build (vs := [(0, _), (1, _)]) rfl (b24_01 _ _ _)) (by decide) fun a hF => ?_
        refine s_alloc hF (by decide) zero24 fun w22 b6 a eb6 m6 B23 zb6 hF => ?_
        have sB23 := B23.size
        have hB := hB.trans (B23.mono hB.size)
        have m1 := m1.old B23
        have m2 := m2.old B23
        have hO := own_below hO B23
        have hP := hP.below B23
        refine s_putW hF rfl rfl (size_wide wide24) m6 rfl (one3 rfl) fun w24 m6 o25 => ?_
        have so25 := o25.size
        have hB := hB.trans (o25.below (by omega))
        have m1 := m1.only o25 (by omega)
        have m2 := m2.only o25 (by omega)
        have hO := own_only hO o25 (fun e => by have := hat _ e; omega)
        have hP := hP.only o25 (fun k (hk : b2 < k ∧ k ≠ o2 ∧ k < top) => by omega)
        refine s_end (hK21 _ _ ?_)
        refine wp_seq_k fun K22 hK22 => ?_
        refine wp_rs fun K23 hK23 => ?_
        refine s_val hF (x_move rfl) (by decide) fun a hF => ?_
        refine s_val hF (x_gtr (b := true) (decide_eq_true (by omega)) rfl rfl) (by decide) fun a hF => ?_
        refine s_end (hK23 _ _ ?_)
        refine wp_if hF rfl ?_
        refine wp_region_lit ?_
        refine s_val hF (x_move rfl) (by decide) fun a hF => ?_
        refine s_val hF (x_ldW wide24 m6 rfl rfl) (by decide) fun a hF => ?_
        refine s_litG [lv (2, (i : Int), .slice none 0 0)] el22 hF (by decide) rfl (by simp [Value.cells, lc]) rfl (by decide) (by decide) fun w26 bs a ebs ms B27 zbs hF => ?_
        have sB27 := B27.size
        have hB := hB.trans (B27.mono hB.size)
        have m1 := m1.old B27
        have m2 := m2.old B27
        have hO := own_below hO B27
        have hP := hP.below B27
        have m6 := m6.old B27
        have ms : Blk w26 bs 24 (lc (2, (i : Int), .slice none 0 0)) := by simpa [Value.cells] using ms
        refine s_val hF (x_build (vs := [(0, _), (1, _), (2, _)]) rfl (b24_012 _ _ _ _ _ _)) (by decide) fun a hF => ?_
        refine s_putW hF rfl rfl (size_wide wide24) m6 rfl (one3 rfl) fun w28 m6 o29 => ?_
        have so29 := o29.size
        have hB := hB.trans (o29.below (by omega))
        have m1 := m1.only o29 (by omega)
        have m2 := m2.only o29 (by omega)
        have hO := own_only hO o29 (fun e => by have := hat _ e; omega)
        have hP := hP.only o29 (fun k (hk : b2 < k ∧ k ≠ o2 ∧ k < top) => by omega)
        have ms := ms.only o29 (by omega)
        refine s_end (hK22 _ _ ?_)
        refine wp_rs fun K24 hK24 => ?_
        refine s_val hF (x_move rfl) (by decide) fun a hF => ?_
        refine s_val hF (x_geq (b := true) (decide_eq_true (by omega)) rfl rfl) (by decide) fun a hF => ?_
        refine s_end (hK24 _ _ ?_)
        refine wp_if hF rfl ?_
        refine wp_region_lit ?_
        refine s_val hF (x_move rfl) (by decide) fun a hF => ?_
        refine s_val hF (x_ldW wide24 m6 rfl rfl) (by decide) fun a hF => ?_
        refine s_litG [lv (3, gt ks i, .slice (some ⟨bs, 0, none⟩) 1 1)] el22 hF (by decide) rfl (by simp [Value.cells, lc]) rfl (by decide) (by decide) fun w30 bl a ebl ml B31 zbl hF => ?_
        have sB31 := B31.size
        have hB := hB.trans (B31.mono hB.size)
        have m1 := m1.old B31
        have m2 := m2.old B31
        have hO := own_below hO B31
        have hP := hP.below B31
        have m6 := m6.old B31
        have ms := ms.old B31
        have ml : Blk w30 bl 24 (lc (3, gt ks i, .slice (some ⟨bs, 0, none⟩) 1 1)) := by simpa [Value.cells] using ml
        refine s_app1 (o := o2) el22 hF (by decide) rfl rfl hO ml rfl (one3 rfl) hat (by omega) (by omega) (by decide) (by omega) fun v3 w32 a o3 hOn hOatn how hsrc k33 hkeep hF => ?_
        have sk33 := k33.size
        have hB := k33.under hB (by omega)
        have m1 : Blk w32 b1 _ _ := (hkeep _ m1.lt hne).trans m1
        have m2 := m2.k2 k33 (by omega)
        have hP := hP.k2 k33 (fun k (hk : b2 < k ∧ k ≠ o2 ∧ k < top) => by omega)
        have m6 := m6.k2 k33 (by omega)
        have ms := ms.k2 k33 (by omega)
        have ml := ml.k2 k33 (by omega)
        have hO := hOn
        have hO_at := hOatn
        have hneg : v3.ownBlock ≠ some b1 := fun h => by rcases hsrc b1 h with h | h; exact hne h; omega
        refine s_val hF (x_assign rfl) (by decide) fun a hF => ?_
        refine s_end (hK10 _ _ ?_)
        refine wp_region_lit ?_
        refine s_val hF (x_addn (i + 1) (by omega) (by omega) rfl rfl) (by decide) fun a hF => ?_
        refine s_val hF (x_move rfl) (by decide) fun a hF => ?_
        refine s_end (hK' _ _ (by omega) ⟨v3, o3, zs ++ [(3, gt ks i, .slice (some ⟨bs, 0, none⟩) 1 1)], by rw [fm3_app]; simpa using hO, hO_at, hneg, by omega, by rw [pts, hp1]; exact (hP.mono (fun k (hk : b2 < k ∧ k ≠ o2 ∧ k < top) => (by omega : _ ∧ _ ∧ _))).snoc (⟨rfl, by show gt ks i = _; omega, (2, (i : Int), .slice none 0 0), Rd.blk (k := 3) ms rfl, fun j h => by cases h; show b2 < bs ∧ bs ≠ o3 ∧ bs < _; have := ms.lt; omega, ⟨rfl, rfl, Rd.nil _ _⟩⟩), m1, m2, by omega, by omega, hB, hF.sub _ rfl⟩)
    · obtain rfl : i = ks.length := by omega
      have hVp := Rd.own hO
      have hPp := hP.mono (B := fun k => w0.heap.size ≤ k ∧ k ≠ b2 ∧ k < wq.heap.size) (fun k (hk : b2 < k ∧ k ≠ o2 ∧ k < top) => (by omega : _ ∧ _ ∧ _))
      have hBP := Below.refl wq.heap.size wq
      have hppos := pts_pos (c := c) hTm
      have hPl := hPp.1
      obtain ⟨b8, off8, c8, z0, hve, hz0, hrow0⟩ := rd_row3 hVp (i := 0) (by omega)
      cases hve
      obtain ⟨p0, hp0e, hz0r⟩ := hPp.at hz0
      have h1z0 := hz0r.rs.one1
      clear hP
      refine wp_exit (hK6 _ _ ?_)
      refine wp_rs fun K25 hK25 => ?_
      refine s_val hF (x_move rfl) (by decide) fun a hF => ?_
      refine s_val hF (x_ixa rfl rfl (m_ixsK 0 Try.underlying22 el22.size rfl (by omega))) (by decide) fun a hF => ?_
      refine s_val hF (x_ldA wide24 (hrow0 _ hBP) rfl rfl) (by decide) fun a hF => ?_
      refine s_alloc hF (by decide) zero24 fun w34 b7 a eb7 m7 B35 zb7 hF => ?_
      have sB35 := B35.size
      have hB := hB.trans (B35.mono hB.size)
      have hBP := hBP.trans (B35.mono hBP.size)
      have m1 := m1.old B35
      have m2 := m2.old B35
      refine s_putW hF rfl rfl (size_wide wide24) m7 rfl (one_lc h1z0) fun w36 m7 o37 => ?_
      have so37 := o37.size
      have hB := hB.trans (o37.below (by omega))
      have hBP := hBP.trans (o37.below (by omega))
      have m1 := m1.only o37 (by omega)
      have m2 := m2.only o37 (by omega)
      refine s_end (hK25 _ _ ?_)
      refine wp_seq_k fun K26 hK26 => ?_
      have hV2 := rd_tail hVp (by omega)
      obtain ⟨a2, ha2⟩ : ∃ a2, a2 = (if c8 = 1 then some (⟨b8, off8, none⟩ : Addr) else (some (⟨b8, off8, none⟩ : Addr)).map (·.add (1 * 3))) := ⟨_, rfl⟩
      rw [← ha2] at hV2
      have hdl : (zs.drop 1).length = zs.length - 1 := by rw [List.length_drop]
      have hb7 := m7.lt
      refine wp_rs fun K27 hK27 => ?_
      refine s_val hF (x_move rfl) (by decide) fun a hF => ?_
      refine s_val hF (x_slice (v := .slice a2 (zs.length - 1) (c8 - 1)) (vlo := some (.int .i64 1)) (vhi := none) (vmx := none) rfl rfl rfl rfl (by rw [ha2]; exact m_sliceFK 1 Try.underlying22 el22.size rfl (by omega))) (by decide) fun a hF => ?_
      refine s_val hF (x_len Try.underlying22 rfl) (by decide) fun a hF => ?_
      refine s_val hF (x_move rfl) (by decide) fun a hF => ?_
      refine s_end (hK27 _ _ ?_)
      refine wp_block ?_
      refine wp_up (zs.length - 1) (fun i a w => ∃ z, Blk w b7 24 (lc z) ∧ RSn w (fun k => w0.heap.size ≤ k ∧ k ≠ b2 ∧ k ≠ b7) ((((pts c ks ks.length).drop 1).take i).foldl SL.mx p0) z ∧ Blk w b2 24 [.int .i64 0, .int .i64 0, .slice none 0 0] ∧ Below w0.heap.size w0 w ∧ Below wq.heap.size wq w ∧ Fs 64 a [(54, .int .i64 (i : Int)), (53, .int .i64 ((zs.length - 1 : Nat) : Int)), (52, .slice a2 (zs.length - 1) (c8 - 1)), (7, .pointer (some ⟨b7, 0, none⟩)), (2, .pointer (some ⟨b2, 0, none⟩))]) ⟨z0, m7, (hz0r.below hBP).mono (fun k h => ⟨h.1, h.2.1, by have := h.2.2; omega⟩), m2, hB, hBP, hF.sub _ rfl⟩ ?_
      repeat clear hF
      clear hB hBP m7 m2
      rintro i a w hi ⟨z, m7, hz, m2, hB, hBP, hF⟩ K' hK'
      have sB := hB.size
      have sBP := hBP.size
      have hml := m7.lt
      obtain ⟨top2, htop2⟩ : ∃ h, h = w.heap.size := ⟨_, rfl⟩
      have hz := hz.valid.mono (B := fun k => w0.heap.size ≤ k ∧ k ≠ b2 ∧ k ≠ b7 ∧ k < top2) (fun k h => ⟨h.1.1, h.1.2.1, h.1.2.2, by have := h.2; omega⟩)
      refine wp_rs fun K28 hK28 => ?_
      refine s_val hF (x_lss (b := decide (i < zs.length - 1)) (decide_eq_decide.2 (by omega)) rfl rfl) (by decide) fun a hF => ?_
      refine s_end (hK28 _ _ ?_)
      refine wp_seq_k fun K29 hK29 => ?_
      refine wp_iff hF rfl (fun hc55 => ?_) (fun hc55 => ?_)
      · obtain ⟨b9, off9, c9, y, hve, hy, hrow⟩ := rd_row3 hV2 (i := i) (by omega)
        rw [hdl] at hve
        cases hve
        have hy1 : zs[i + 1]? = some y := by rw [List.getElem?_drop, Nat.add_comm] at hy; exact hy
        obtain ⟨q, hq1, hyr⟩ := hPp.at hy1
        have hq2 : ((pts c ks ks.length).drop 1)[i]? = some q := by rw [List.getElem?_drop, Nat.add_comm]; exact hq1
        have h1y := hyr.rs.one1
        have h1z := hz.rs.one1
        refine wp_skip (hK29 _ _ ?_)
        refine wp_seq_k fun K30 hK30 => ?_
        refine wp_block ?_
        refine wp_rs fun K31 hK31 => ?_
        refine s_val hF (x_ixa rfl rfl (m_ixsK i Try.underlying22 el22.size rfl (by omega))) (by decide) fun a hF => ?_
        refine s_val hF (x_ldA wide24 (hrow _ hBP) rfl rfl) (by decide) fun a hF => ?_
        refine s_alloc hF (by decide) zero24 fun w38 b9 a eb9 m9 B39 zb9 hF => ?_
        have sB39 := B39.size
        have hB := hB.trans (B39.mono hB.size)
        have hBP := hBP.trans (B39.mono hBP.size)
        have m7 := m7.old B39
        have m2 := m2.old B39
        have hz := hz.below B39
        refine s_putW hF rfl rfl (size_wide wide24) m9 rfl (one_lc h1y) fun w40 m9 o41 => ?_
        have so41 := o41.size
        have hB := hB.trans (o41.below (by omega))
        have hBP := hBP.trans (o41.below (by omega))
        have m7 := m7.only o41 (by omega)
        have m2 := m2.only o41 (by omega)
        have hz := hz.only o41 (fun k (hk : w0.heap.size ≤ k ∧ k ≠ b2 ∧ k ≠ b7 ∧ k < top2) => by omega)
        refine s_end (hK31 _ _ ?_)
        refine wp_region_lit ?_
        refine s_val hF (x_ldW wide24 m7 rfl rfl) (by decide) fun a hF => ?_
        refine s_val hF (x_ldW wide24 m9 rfl rfl) (by decide) fun a hF => ?_
        refine s_litG [lv z, lv y] el22 hF (by decide) rfl (by simp [Value.cells, lc]) rfl (by decide) (by decide) fun w42 bl a ebl ml B43 zbl hF => ?_
        have sB43 := B43.size
        have hB := hB.trans (B43.mono hB.size)
        have hBP := hBP.trans (B43.mono hBP.size)
        have m7 := m7.old B43
        have m2 := m2.old B43
        have hz := hz.below B43
        have m9 := m9.old B43
        refine s_val hF (x_build (vs := [(0, _), (2, _)]) rfl (b24_02 _ _ _ _ _)) (by decide) fun a hF => ?_
        refine s_putW (vs := lc (4, 0, .slice (some ⟨bl, 0, none⟩) 2 2)) hF rfl rfl (size_wide wide24) m7 rfl (one3 rfl) fun w44 m7 o45 => ?_
        have so45 := o45.size
        have hB := hB.trans (o45.below (by omega))
        have hBP := hBP.trans (o45.below (by omega))
        have m2 := m2.only o45 (by omega)
        have hz := hz.only o45 (fun k (hk : w0.heap.size ≤ k ∧ k ≠ b2 ∧ k ≠ b7 ∧ k < top2) => by omega)
        have m9 := m9.only o45 (by omega)
        have ml := ml.only o45 (by omega)
        have hz : RSn w44 (fun k => w0.heap.size ≤ k ∧ k ≠ b2 ∧ k ≠ b7) (.mx ((((pts c ks ks.length).drop 1).take i).foldl SL.mx p0) q) (4, 0, .slice (some ⟨bl, 0, none⟩) 2 2) := ⟨rfl, z, y, Rd.blk (k := 3) (by simpa [Value.cells] using ml) (by simp [lc]), fun j h => by cases h; show _ ≤ bl ∧ bl ≠ b2 ∧ bl ≠ b7; omega, hz.mono (fun k h => ⟨h.1, h.2.1, h.2.2.1⟩), (hyr.below hBP).mono (fun k h => ⟨h.1, h.2.1, by have := h.2.2; omega⟩)⟩
        refine s_end (hK30 _ _ ?_)
        refine wp_region_lit ?_
        refine s_val hF (x_addn (i + 1) (by omega) (by omega) rfl rfl) (by decide) fun a hF => ?_
        refine s_val hF (x_move rfl) (by decide) fun a hF => ?_
        refine s_end (hK' _ _ (by omega) ⟨_, m7, by rw [fold_snoc hq2]; exact hz, m2, hB, hBP, hF.sub _ rfl⟩)
      · have hPl2 := hPp.1
        have hall : ((pts c ks ks.length).drop 1).take i = (pts c ks ks.length).drop 1 := List.take_of_length_le (by rw [List.length_drop]; omega)
        rw [hall, ← levF_eq rfl hp0e] at hz
        have h1z := hz.rs.one1
        refine wp_exit (hK26 _ _ ?_)
        refine wp_rs fun K32 hK32 => ?_
        refine s_val hF (x_ldW wide24 m7 rfl rfl) (by decide) fun a hF => ?_
        refine s_putW hF rfl rfl (size_wide wide24) m2 rfl (one_lc h1z) fun w46 m2 o47 => ?_
        have so47 := o47.size
        have hB := hB.trans (o47.below (by omega))
        have m7 := m7.only o47 (by omega)
        have hz := hz.only o47 (fun k (hk : w0.heap.size ≤ k ∧ k ≠ b2 ∧ k ≠ b7 ∧ k < top2) => by omega)
        refine s_end (hK32 _ _ ?_)
        refine wp_ret (res_cell hF rfl rfl m2 wide24 ⟨_, rfl, ⟨z, rfl, hz.mono (fun k h => h.1)⟩, hB⟩)
  · have hp0 : pts c ks 0 = [.num c.toNat] := by rw [pts, if_pos (.inr (List.eq_nil_of_length_eq_zero hq.2))]
    refine wp_rs fun K33 hK33 => ?_
    refine s_val hF (x_fa0 fa36_0 rfl) (by decide) fun a hF => ?_
    refine s_val hF (x_load rfl (m_load flat3 (m1.cell (j := 0) rfl))) (by decide) fun a hF => ?_
    refine s_val hF (x_gtr (b := false) (decide_eq_false (by omega)) rfl rfl) (by decide) fun a hF => ?_
    refine s_val hF (x_move rfl) (by decide) fun a hF => ?_
    refine s_grd 13 hF rfl rfl rfl ?_
    refine s_val hF (x_fa0 fa36_1 rfl) (by decide) fun a hF => ?_
    refine s_grd 13 hF rfl rfl rfl ?_
    refine s_val hF (x_load rfl (m_load flat29 (m1.cell (j := 1) rfl))) (by decide) fun a hF => ?_
    refine s_grd 13 hF rfl rfl rfl ?_
    refine s_val hF (x_len Try.underlying29 rfl) (by decide) fun a hF => ?_
    refine s_grd 13 hF rfl rfl rfl ?_
    refine s_val hF (x_eql (b := true) (decide_eq_true (by omega)) rfl rfl) (by decide) fun a hF => ?_
    refine s_val hF (x_pick (b := false) rfl rfl) (by decide) fun a hF => ?_
    refine s_end (hK33 _ _ ?_)
    refine wp_if hF rfl ?_
    refine wp_region_lit ?_
    refine s_val hF (x_move rfl) (by decide) fun a hF => ?_
    refine s_val hF (x_fa0 fa36_0 rfl) (by decide) fun a hF => ?_
    refine s_val hF (x_load rfl (m_load flat3 (m1.cell (j := 0) rfl))) (by decide) fun a hF => ?_
    refine s_val hF (x_build (vs := [(0, _), (1, _)]) rfl (b24_01 _ _ _)) (by decide) fun a hF => ?_
    refine s_litG [lv (1, c, .slice none 0 0)] el22 hF (by decide) rfl (by simp [Value.cells, lc]) rfl (by decide) (by decide) fun w48 bl a ebl ml B49 zbl hF => ?_
    have sB49 := B49.size
    have hB := hB.trans (B49.mono hB.size)
    have m1 := m1.old B49
    have m2 := m2.old B49
    have ml : Blk w48 bl 24 (lc (1, c, .slice none 0 0)) := by simpa [Value.cells] using ml
    have hO : w48.ownsRow w0.heap.size 24 3 (.slice none 0 0) 0 [] := World.ownsRow_nil _ _ _ _
    have hat : ∀ j, (Value.slice none 0 0).ownBlock = some j → j = b1 := fun j h => by cases h
    have hne : (Value.slice none 0 0).ownBlock ≠ some b1 := fun h => by cases h
    have hm1 := m1.lt
    refine s_app1 (o := b1) el22 hF (by decide) rfl rfl hO ml rfl (one3 rfl) hat (by omega) (by omega) (by decide) (by omega) fun v3 w50 a o3 hOn hOatn how hsrc k51 hkeep hF => ?_
    have sk51 := k51.size
    have hB := k51.under hB (by omega)
    have m1 : Blk w50 b1 _ _ := (hkeep _ m1.lt hne).trans m1
    have m2 := m2.k2 k51 (by omega)
    have ml := ml.k2 k51 (by omega)
    have hO := hOn
    have hO_at := hOatn
    have hneg : v3.ownBlock ≠ some b1 := fun h => by rcases hsrc b1 h with h | h; exact hne h; omega
    refine s_val hF (x_assign rfl) (by decide) fun a hF => ?_
    refine s_end (hK3 _ _ ?_)
    refine wp_seq_k fun K34 hK34 => ?_
    refine wp_rs fun K35 hK35 => ?_
    refine s_val hF (x_fa0 fa36_1 rfl) (by decide) fun a hF => ?_
    refine s_val hF (x_load rfl (m_load flat29 (m1.cell (j := 1) rfl))) (by decide) fun a hF => ?_
    refine s_val hF (x_len Try.underlying29 rfl) (by decide) fun a hF => ?_
    refine s_val hF (x_move rfl) (by decide) fun a hF => ?_
    refine s_end (hK35 _ _ ?_)
    refine wp_block ?_
    have hJ : ∃ v' o' zs, w50.ownsRow w0.heap.size 24 3 v' zs.length (zs.flatMap lc) ∧ (∀ j, v'.ownBlock = some j → j = o') ∧ v'.ownBlock ≠ some b1 ∧ (w0.heap.size ≤ o' ∧ o' < w50.heap.size) ∧ PL w50 (fun k => b2 < k ∧ k ≠ o' ∧ k < w50.heap.size) zs (pts c ks 0) ∧ v3 = v' ∧ (o' = b1 ∨ b2 < o') := ⟨v3, o3, [(1, c, .slice none 0 0)], by simpa using hO, hO_at, hneg, by omega, by rw [hp0]; exact PL.snoc PL.nil ⟨rfl, by show c = _; omega, Rd.nil _ _⟩, rfl, by omega⟩
    obtain ⟨vj, oj, zj, hj1, hj2, hj3, hj4, hj5, hj6, hj7⟩ := hJ
    rw [hj6] at hF
    refine wp_up ks.length (fun i a w => ∃ v' o' zs, w.ownsRow w0.heap.size 24 3 v' zs.length (zs.flatMap lc) ∧ (∀ j, v'.ownBlock = some j → j = o') ∧ v'.ownBlock ≠ some b1 ∧ (w0.heap.size ≤ o' ∧ o' < w.heap.size) ∧ PL w (fun k => b2 < k ∧ k ≠ o' ∧ k < w.heap.size) zs (pts c ks i) ∧ Blk w b1 36 [.int .i64 c, .slice av ks.length cv] ∧ Blk w b2 24 [.int .i64 0, .int .i64 0, .slice none 0 0] ∧ b2 < o' + b2 + 1 ∧ (o' = b1 ∨ b2 < o') ∧ Below w0.heap.size w0 w ∧ Fs 64 a [(28, .int .i64 (i : Int)), (27, .int .i64 (ks.length : Int)), (26, .slice av ks.length cv), (3, v'), (2, .pointer (some ⟨b2, 0, none⟩))]) ⟨vj, oj, zj, hj1, hj2, hj3, hj4, hj5, m1, m2, by omega, hj7, hB, hF.sub _ rfl⟩ ?_
    repeat clear hF
    clear hB m1 m2
    rintro i a wq hi ⟨vv, o2, zs, hO, hat, hne, hlo, hP, m1, m2, _, ho2b, hB, hF⟩ K' hK'
    have sB := hB.size
    have hm1 := m1.lt
    have hm2 := m2.lt
    obtain ⟨top, htop⟩ : ∃ h, h = wq.heap.size := ⟨_, rfl⟩
    rw [← htop] at hP
    have hPl := hP.1
    have hple := pts_le c ks i
    refine wp_rs fun K36 hK36 => ?_
    refine s_val hF (x_lss rfl rfl rfl) (by decide) fun a hF => ?_
    refine s_end (hK36 _ _ ?_)
    refine wp_seq_k fun K37 hK37 => ?_
    refine wp_iff hF rfl (fun hc29 => ?_) (fun hc29 => ?_)
    · have hgi := hLo.gt i
      obtain ⟨b6, off6, c6, hve, hrowk⟩ := rd_rowI hV (i := i) (by omega)
      cases hve
      refine wp_skip (hK37 _ _ ?_)
      refine wp_seq_k fun K38 hK38 => ?_
      refine wp_block ?_
      refine wp_rs fun K39 hK39 => ?_
      refine s_val hF (x_move rfl) (by decide) fun a hF => ?_
      refine s_val hF (x_ixa rfl rfl (m_ixs i Try.underlying29 el29.size rfl (by omega))) (by decide) fun a hF => ?_
      refine s_val hF (x_load rfl (m_load flat3 (hrowk _ hB))) (by decide) fun a hF => ?_
      refine s_val hF (x_assign rfl) (by decide) fun a hF => ?_
      refine s_val hF (x_assign rfl) (by decide) fun a hF => ?_
      refine s_end (hK39 _ _ ?_)
      rcases (show gt ks i = -1 ∨ gt ks i = 0 ∨ 0 < gt ks i by omega) with hg | hg | hg
      · have hp1 : part1 i (gt ks i) = [] := by rw [part1, if_pos (by omega)]
        refine wp_rs fun K41 hK41 => ?_
        refine s_val hF (x_move rfl) (by decide) fun a hF => ?_
        refine s_val hF (x_build (vs := [(0, _), (1, _)]) rfl (b24_01 _ _ _)) (by decide) fun a hF => ?_
        refine s_alloc hF (by decide) zero24 fun w52 b6 a eb6 m6 B53 zb6 hF => ?_
        have sB53 := B53.size
        have hB := hB.trans (B53.mono hB.size)
        have m1 := m1.old B53
        have m2 := m2.old B53
        have hO := own_below hO B53
        have hP := hP.below B53
        refine s_putW hF rfl rfl (size_wide wide24) m6 rfl (one3 rfl) fun w54 m6 o55 => ?_
        have so55 := o55.size
        have hB := hB.trans (o55.below (by omega))
        have m1 := m1.only o55 (by omega)
        have m2 := m2.only o55 (by omega)
        have hO := own_only hO o55 (fun e => by have := hat _ e; omega)
        have hP := hP.only o55 (fun k (hk : b2 < k ∧ k ≠ o2 ∧ k < top) => by omega)
        refine s_end (hK41 _ _ ?_)
        refine wp_seq_k fun K42 hK42 => ?_
        refine wp_rs fun K43 hK43 => ?_
        refine s_val hF (x_move rfl) (by decide) fun a hF => ?_
        refine s_val hF (x_gtr (b := false) (decide_eq_false (by omega)) rfl rfl) (by decide) fun a hF => ?_
        refine s_end (hK43 _ _ ?_)
        refine wp_if hF rfl ?_
        refine wp_skip (hK42 _ _ ?_)
        refine wp_rs fun K44 hK44 => ?_
        refine s_val hF (x_move rfl) (by decide) fun a hF => ?_
        refine s_val hF (x_geq (b := false) (decide_eq_false (by omega)) rfl rfl) (by decide) fun a hF => ?_
        refine s_end (hK44 _ _ ?_)
        refine wp_if hF rfl ?_
        refine wp_skip (hK38 _ _ ?_)
        refine wp_region_lit ?_
        refine s_val hF (x_addn (i + 1) (by omega) (by omega) rfl rfl) (by decide) fun a hF => ?_
        refine s_val hF (x_move rfl) (by decide) fun a hF => ?_
        refine s_end (hK' _ _ (by omega) ⟨vv, o2, zs, hO, hat, hne, by omega, by rw [pts, hp1, List.append_nil]; exact hP.mono (fun k (hk : b2 < k ∧ k ≠ o2 ∧ k < top) => (by omega : _ ∧ _ ∧ _)), m1, m2, by omega, ho2b, hB, hF.sub _ rfl⟩)
      · have hp1 : part1 i (gt ks i) = [.var i] := by rw [part1, if_neg (by omega), if_pos hg]
        refine wp_rs fun K45 hK45 => ?_
        refine s_val hF (x_move rfl) (by decide) fun a hF => ?_
        refine s_val hF (x_build (vs := [(0, _), (1, _)]) rfl (b24_01 _ _ _)) (by decide) fun a hF => ?_
        refine s_alloc hF (by decide) zero24 fun w56 b6 a eb6 m6 B57 zb6 hF => ?_
        have sB57 := B57.size
        have hB := hB.trans (B57.mono hB.size)
        have m1 := m1.old B57
        have m2 := m2.old B57
        have hO := own_below hO B57
        have hP := hP.below B57
        refine s_putW hF rfl rfl (size_wide wide24) m6 rfl (one3 rfl) fun w58 m6 o59 => ?_
        have so59 := o59.size
        have hB := hB.trans (o59.below (by omega))
        have m1 := m1.only o59 (by omega)
        have m2 := m2.only o59 (by omega)
        have hO := own_only hO o59 (fun e => by have := hat _ e; omega)
        have hP := hP.only o59 (fun k (hk : b2 < k ∧ k ≠ o2 ∧ k < top) => by omega)
        refine s_end (hK45 _ _ ?_)
        refine wp_seq_k fun K46 hK46 => ?_
        refine wp_rs fun K47 hK47 => ?_
        refine s_val hF (x_move rfl) (by decide) fun a hF => ?_
        refine s_val hF (x_gtr (b := false) (decide_eq_false (by omega)) rfl rfl) (by decide) fun a hF => ?_
        refine s_end (hK47 _ _ ?_)
        refine wp_if hF rfl ?_
        refine wp_skip (hK46 _ _ ?_)
        refine wp_rs fun K48 hK48 => ?_
        refine s_val hF (x_move rfl) (by decide) fun a hF => ?_
        refine s_val hF (x_geq (b := true) (decide_eq_true (by omega)) rfl rfl) (by decide) fun a hF => ?_
        refine s_end (hK48 _ _ ?_)
        refine wp_if hF rfl ?_
        refine wp_region_lit ?_
        refine s_val hF (x_move rfl) (by decide) fun a hF => ?_
        refine s_val hF (x_ldW wide24 m6 rfl rfl) (by decide) fun a hF => ?_
        refine s_litG [lv (2, (i : Int), .slice none 0 0)] el22 hF (by decide) rfl (by simp [Value.cells, lc]) rfl (by decide) (by decide) fun w60 bl a ebl ml B61 zbl hF => ?_
        have sB61 := B61.size
        have hB := hB.trans (B61.mono hB.size)
        have m1 := m1.old B61
        have m2 := m2.old B61
        have hO := own_below hO B61
        have hP := hP.below B61
        have m6 := m6.old B61
        have ml : Blk w60 bl 24 (lc (2, (i : Int), .slice none 0 0)) := by simpa [Value.cells] using ml
        refine s_app1 (o := o2) el22 hF (by decide) rfl rfl hO ml rfl (one3 rfl) hat (by omega) (by omega) (by decide) (by omega) fun v3 w62 a o3 hOn hOatn how hsrc k63 hkeep hF => ?_
        have sk63 := k63.size
        have hB := k63.under hB (by omega)
        have m1 : Blk w62 b1 _ _ := (hkeep _ m1.lt hne).trans m1
        have m2 := m2.k2 k63 (by omega)
        have hP := hP.k2 k63 (fun k (hk : b2 < k ∧ k ≠ o2 ∧ k < top) => by omega)
        have m6 := m6.k2 k63 (by omega)
        have ml := ml.k2 k63 (by omega)
        have hO := hOn
        have hO_at := hOatn
        have hneg : v3.ownBlock ≠ some b1 := fun h => by rcases hsrc b1 h with h | h; exact hne h; omega
        refine s_val hF (x_assign rfl) (by decide) fun a hF => ?_
        refine s_end (hK38 _ _ ?_)
        refine wp_region_lit ?_
        refine s_val hF (x_addn (i + 1) (by omega) (by omega) rfl rfl) (by decide) fun a hF => ?_
        refine s_val hF (x_move rfl) (by decide) fun a hF => ?_
        refine s_end (hK' _ _ (by omega) ⟨v3, o3, zs ++ [(2, (i : Int), .slice none 0 0)], by rw [fm3_app]; simpa using hO, hO_at, hneg, by omega, by rw [pts, hp1]; exact (hP.mono (fun k (hk : b2 < k ∧ k ≠ o2 ∧ k < top) => (by omega : _ ∧ _ ∧ _))).snoc (⟨rfl, rfl, Rd.nil _ _⟩), m1, m2, by omega, by omega, hB, hF.sub _ rfl⟩)
      · have hp1 : part1 i (gt ks i) = [.succ (gt ks i).toNat (.var i)] := by rw [part1, if_neg (by omega), if_neg (by omega)]
        refine wp_rs fun K49 hK49 => ?_
        refine s_val hF (x_move rfl) (by decide) fun a hF => ?_
        refine s_val hF (x_build (vs := [(0, _), (1, _)]) rfl (b24_01 _ _ _)) (by decide) fun a hF => ?_
        refine s_alloc hF (by decide) zero24 fun w64 b6 a eb6 m6 B65 zb6 hF => ?_
        have sB65 := B65.size
        have hB := hB.trans (B65.mono hB.size)
        have m1 := m1.old B65
        have m2 := m2.old B65
        have hO := own_below hO B65
        have hP := hP.below B65
        refine s_putW hF rfl rfl (size_wide wide24) m6 rfl (one3 rfl) fun w66 m6 o67 => ?_
        have so67 := o67.size
        have hB := hB.trans (o67.below (by omega))
        have m1 := m1.only o67 (by omega)
        have m2 := m2.only o67 (by omega)
        have hO := own_only hO o67 (fun e => by have := hat _ e; omega)
        have hP := hP.only o67 (fun k (hk : b2 < k ∧ k ≠ o2 ∧ k < top) => by omega)
        refine s_end (hK49 _ _ ?_)
        refine wp_seq_k fun K50 hK50 => ?_
        refine wp_rs fun K51 hK51 => ?_
        refine s_val hF (x_move rfl) (by decide) fun a hF => ?_
        refine s_val hF (x_gtr (b := true) (decide_eq_true (by omega)) rfl rfl) (by decide) fun a hF => ?_
        refine s_end (hK51 _ _ ?_)
        refine wp_if hF rfl ?_
        refine wp_region_lit ?_
        refine s_val hF (x_move rfl) (by decide) fun a hF => ?_
        refine s_val hF (x_ldW wide24 m6 rfl rfl) (by decide) fun a hF => ?_
        refine s_litG [lv (2, (i : Int), .slice none 0 0)] el22 hF (by decide) rfl (by simp [Value.cells, lc]) rfl (by decide) (by decide) fun w68 bs a ebs ms B69 zbs hF => ?_
        have sB69 := B69.size
        have hB := hB.trans (B69.mono hB.size)
        have m1 := m1.old B69
        have m2 := m2.old B69
        have hO := own_below hO B69
        have hP := hP.below B69
        have m6 := m6.old B69
        have ms : Blk w68 bs 24 (lc (2, (i : Int), .slice none 0 0)) := by simpa [Value.cells] using ms
        refine s_val hF (x_build (vs := [(0, _), (1, _), (2, _)]) rfl (b24_012 _ _ _ _ _ _)) (by decide) fun a hF => ?_
        refine s_putW hF rfl rfl (size_wide wide24) m6 rfl (one3 rfl) fun w70 m6 o71 => ?_
        have so71 := o71.size
        have hB := hB.trans (o71.below (by omega))
        have m1 := m1.only o71 (by omega)
        have m2 := m2.only o71 (by omega)
        have hO := own_only hO o71 (fun e => by have := hat _ e; omega)
        have hP := hP.only o71 (fun k (hk : b2 < k ∧ k ≠ o2 ∧ k < top) => by omega)
        have ms := ms.only o71 (by omega)
        refine s_end (hK50 _ _ ?_)
        refine wp_rs fun K52 hK52 => ?_
        refine s_val hF (x_move rfl) (by decide) fun a hF => ?_
        refine s_val hF (x_geq (b := true) (decide_eq_true (by omega)) rfl rfl) (by decide) fun a hF => ?_
        refine s_end (hK52 _ _ ?_)
        refine wp_if hF rfl ?_
        refine wp_region_lit ?_
        refine s_val hF (x_move rfl) (by decide) fun a hF => ?_
        refine s_val hF (x_ldW wide24 m6 rfl rfl) (by decide) fun a hF => ?_
        refine s_litG [lv (3, gt ks i, .slice (some ⟨bs, 0, none⟩) 1 1)] el22 hF (by decide) rfl (by simp [Value.cells, lc]) rfl (by decide) (by decide) fun w72 bl a ebl ml B73 zbl hF => ?_
        have sB73 := B73.size
        have hB := hB.trans (B73.mono hB.size)
        have m1 := m1.old B73
        have m2 := m2.old B73
        have hO := own_below hO B73
        have hP := hP.below B73
        have m6 := m6.old B73
        have ms := ms.old B73
        have ml : Blk w72 bl 24 (lc (3, gt ks i, .slice (some ⟨bs, 0, none⟩) 1 1)) := by simpa [Value.cells] using ml
        refine s_app1 (o := o2) el22 hF (by decide) rfl rfl hO ml rfl (one3 rfl) hat (by omega) (by omega) (by decide) (by omega) fun v3 w74 a o3 hOn hOatn how hsrc k75 hkeep hF => ?_
        have sk75 := k75.size
        have hB := k75.under hB (by omega)
        have m1 : Blk w74 b1 _ _ := (hkeep _ m1.lt hne).trans m1
        have m2 := m2.k2 k75 (by omega)
        have hP := hP.k2 k75 (fun k (hk : b2 < k ∧ k ≠ o2 ∧ k < top) => by omega)
        have m6 := m6.k2 k75 (by omega)
        have ms := ms.k2 k75 (by omega)
        have ml := ml.k2 k75 (by omega)
        have hO := hOn
        have hO_at := hOatn
        have hneg : v3.ownBlock ≠ some b1 := fun h => by rcases hsrc b1 h with h | h; exact hne h; omega
        refine s_val hF (x_assign rfl) (by decide) fun a hF => ?_
        refine s_end (hK38 _ _ ?_)
        refine wp_region_lit ?_
        refine s_val hF (x_addn (i + 1) (by omega) (by omega) rfl rfl) (by decide) fun a hF => ?_
        refine s_val hF (x_move rfl) (by decide) fun a hF => ?_
        refine s_end (hK' _ _ (by omega) ⟨v3, o3, zs ++ [(3, gt ks i, .slice (some ⟨bs, 0, none⟩) 1 1)], by rw [fm3_app]; simpa using hO, hO_at, hneg, by omega, by rw [pts, hp1]; exact (hP.mono (fun k (hk : b2 < k ∧ k ≠ o2 ∧ k < top) => (by omega : _ ∧ _ ∧ _))).snoc (⟨rfl, by show gt ks i = _; omega, (2, (i : Int), .slice none 0 0), Rd.blk (k := 3) ms rfl, fun j h => by cases h; show b2 < bs ∧ bs ≠ o3 ∧ bs < _; have := ms.lt; omega, ⟨rfl, rfl, Rd.nil _ _⟩⟩), m1, m2, by omega, by omega, hB, hF.sub _ rfl⟩)
    · obtain rfl : i = ks.length := by omega
      have hVp := Rd.own hO
      have hPp := hP.mono (B := fun k => w0.heap.size ≤ k ∧ k ≠ b2 ∧ k < wq.heap.size) (fun k (hk : b2 < k ∧ k ≠ o2 ∧ k < top) => (by omega : _ ∧ _ ∧ _))
      have hBP := Below.refl wq.heap.size wq
      have hppos := pts_pos (c := c) hTm
      have hPl := hPp.1
      obtain ⟨b8, off8, c8, z0, hve, hz0, hrow0⟩ := rd_row3 hVp (i := 0) (by omega)
      cases hve
      obtain ⟨p0, hp0e, hz0r⟩ := hPp.at hz0
      have h1z0 := hz0r.rs.one1
      clear hP
      refine wp_exit (hK34 _ _ ?_)
      refine wp_rs fun K53 hK53 => ?_
      refine s_val hF (x_move rfl) (by decide) fun a hF => ?_
      refine s_val hF (x_ixa rfl rfl (m_ixsK 0 Try.underlying22 el22.size rfl (by omega))) (by decide) fun a hF => ?_
      refine s_val hF (x_ldA wide24 (hrow0 _ hBP) rfl rfl) (by decide) fun a hF => ?_
      refine s_alloc hF (by decide) zero24 fun w76 b7 a eb7 m7 B77 zb7 hF => ?_
      have sB77 := B77.size
      have hB := hB.trans (B77.mono hB.size)
      have hBP := hBP.trans (B77.mono hBP.size)
      have m1 := m1.old B77
      have m2 := m2.old B77
      refine s_putW hF rfl rfl (size_wide wide24) m7 rfl (one_lc h1z0) fun w78 m7 o79 => ?_
      have so79 := o79.size
      have hB := hB.trans (o79.below (by omega))
      have hBP := hBP.trans (o79.below (by omega))
      have m1 := m1.only o79 (by omega)
      have m2 := m2.only o79 (by omega)
      refine s_end (hK53 _ _ ?_)
      refine wp_seq_k fun K54 hK54 => ?_
      have hV2 := rd_tail hVp (by omega)
      obtain ⟨a2, ha2⟩ : ∃ a2, a2 = (if c8 = 1 then some (⟨b8, off8, none⟩ : Addr) else (some (⟨b8, off8, none⟩ : Addr)).map (·.add (1 * 3))) := ⟨_, rfl⟩
      rw [← ha2] at hV2
      have hdl : (zs.drop 1).length = zs.length - 1 := by rw [List.length_drop]
      have hb7 := m7.lt
      refine wp_rs fun K55 hK55 => ?_
      refine s_val hF (x_move rfl) (by decide) fun a hF => ?_
      refine s_val hF (x_slice (v := .slice a2 (zs.length - 1) (c8 - 1)) (vlo := some (.int .i64 1)) (vhi := none) (vmx := none) rfl rfl rfl rfl (by rw [ha2]; exact m_sliceFK 1 Try.underlying22 el22.size rfl (by omega))) (by decide) fun a hF => ?_
      refine s_val hF (x_len Try.underlying22 rfl) (by decide) fun a hF => ?_
      refine s_val hF (x_move rfl) (by decide) fun a hF => ?_
      refine s_end (hK55 _ _ ?_)
      refine wp_block ?_
      refine wp_up (zs.length - 1) (fun i a w => ∃ z, Blk w b7 24 (lc z) ∧ RSn w (fun k => w0.heap.size ≤ k ∧ k ≠ b2 ∧ k ≠ b7) ((((pts c ks ks.length).drop 1).take i).foldl SL.mx p0) z ∧ Blk w b2 24 [.int .i64 0, .int .i64 0, .slice none 0 0] ∧ Below w0.heap.size w0 w ∧ Below wq.heap.size wq w ∧ Fs 64 a [(54, .int .i64 (i : Int)), (53, .int .i64 ((zs.length - 1 : Nat) : Int)), (52, .slice a2 (zs.length - 1) (c8 - 1)), (7, .pointer (some ⟨b7, 0, none⟩)), (2, .pointer (some ⟨b2, 0, none⟩))]) ⟨z0, m7, (hz0r.below hBP).mono (fun k h => ⟨h.1, h.2.1, by have := h.2.2; omega⟩), m2, hB, hBP, hF.sub _ rfl⟩ ?_
      repeat clear hF
      clear hB hBP m7 m2
      rintro i a w hi ⟨z, m7, hz, m2, hB, hBP, hF⟩ K' hK'
      have sB := hB.size
      have sBP := hBP.size
      have hml := m7.lt
      obtain ⟨top2, htop2⟩ : ∃ h, h = w.heap.size := ⟨_, rfl⟩
      have hz := hz.valid.mono (B := fun k => w0.heap.size ≤ k ∧ k ≠ b2 ∧ k ≠ b7 ∧ k < top2) (fun k h => ⟨h.1.1, h.1.2.1, h.1.2.2, by have := h.2; omega⟩)
      refine wp_rs fun K56 hK56 => ?_
      refine s_val hF (x_lss (b := decide (i < zs.length - 1)) (decide_eq_decide.2 (by omega)) rfl rfl) (by decide) fun a hF => ?_
      refine s_end (hK56 _ _ ?_)
      refine wp_seq_k fun K57 hK57 => ?_
      refine wp_iff hF rfl (fun hc55 => ?_) (fun hc55 => ?_)
      · obtain ⟨b9, off9, c9, y, hve, hy, hrow⟩ := rd_row3 hV2 (i := i) (by omega)
        rw [hdl] at hve
        cases hve
        have hy1 : zs[i + 1]? = some y := by rw [List.getElem?_drop, Nat.add_comm] at hy; exact hy
        obtain ⟨q, hq1, hyr⟩ := hPp.at hy1
        have hq2 : ((pts c ks ks.length).drop 1)[i]? = some q := by rw [List.getElem?_drop, Nat.add_comm]; exact hq1
        have h1y := hyr.rs.one1
        have h1z := hz.rs.one1
        refine wp_skip (hK57 _ _ ?_)
        refine wp_seq_k fun K58 hK58 => ?_
        refine wp_block ?_
        refine wp_rs fun K59 hK59 => ?_
        refine s_val hF (x_ixa rfl rfl (m_ixsK i Try.underlying22 el22.size rfl (by omega))) (by decide) fun a hF => ?_
        refine s_val hF (x_ldA wide24 (hrow _ hBP) rfl rfl) (by decide) fun a hF => ?_
        refine s_alloc hF (by decide) zero24 fun w80 b9 a eb9 m9 B81 zb9 hF => ?_
        have sB81 := B81.size
        have hB := hB.trans (B81.mono hB.size)
        have hBP := hBP.trans (B81.mono hBP.size)
        have m7 := m7.old B81
        have m2 := m2.old B81
        have hz := hz.below B81
        refine s_putW hF rfl rfl (size_wide wide24) m9 rfl (one_lc h1y) fun w82 m9 o83 => ?_
        have so83 := o83.size
        have hB := hB.trans (o83.below (by omega))
        have hBP := hBP.trans (o83.below (by omega))
        have m7 := m7.only o83 (by omega)
        have m2 := m2.only o83 (by omega)
        have hz := hz.only o83 (fun k (hk : w0.heap.size ≤ k ∧ k ≠ b2 ∧ k ≠ b7 ∧ k < top2) => by omega)
        refine s_end (hK59 _ _ ?_)
        refine wp_region_lit ?_
        refine s_val hF (x_ldW wide24 m7 rfl rfl) (by decide) fun a hF => ?_
        refine s_val hF (x_ldW wide24 m9 rfl rfl) (by decide) fun a hF => ?_
        refine s_litG [lv z, lv y] el22 hF (by decide) rfl (by simp [Value.cells, lc]) rfl (by decide) (by decide) fun w84 bl a ebl ml B85 zbl hF => ?_
        have sB85 := B85.size
        have hB := hB.trans (B85.mono hB.size)
        have hBP := hBP.trans (B85.mono hBP.size)
        have m7 := m7.old B85
        have m2 := m2.old B85
        have hz := hz.below B85
        have m9 := m9.old B85
        refine s_val hF (x_build (vs := [(0, _), (2, _)]) rfl (b24_02 _ _ _ _ _)) (by decide) fun a hF => ?_
        refine s_putW (vs := lc (4, 0, .slice (some ⟨bl, 0, none⟩) 2 2)) hF rfl rfl (size_wide wide24) m7 rfl (one3 rfl) fun w86 m7 o87 => ?_
        have so87 := o87.size
        have hB := hB.trans (o87.below (by omega))
        have hBP := hBP.trans (o87.below (by omega))
        have m2 := m2.only o87 (by omega)
        have hz := hz.only o87 (fun k (hk : w0.heap.size ≤ k ∧ k ≠ b2 ∧ k ≠ b7 ∧ k < top2) => by omega)
        have m9 := m9.only o87 (by omega)
        have ml := ml.only o87 (by omega)
        have hz : RSn w86 (fun k => w0.heap.size ≤ k ∧ k ≠ b2 ∧ k ≠ b7) (.mx ((((pts c ks ks.length).drop 1).take i).foldl SL.mx p0) q) (4, 0, .slice (some ⟨bl, 0, none⟩) 2 2) := ⟨rfl, z, y, Rd.blk (k := 3) (by simpa [Value.cells] using ml) (by simp [lc]), fun j h => by cases h; show _ ≤ bl ∧ bl ≠ b2 ∧ bl ≠ b7; omega, hz.mono (fun k h => ⟨h.1, h.2.1, h.2.2.1⟩), (hyr.below hBP).mono (fun k h => ⟨h.1, h.2.1, by have := h.2.2; omega⟩)⟩
        refine s_end (hK58 _ _ ?_)
        refine wp_region_lit ?_
        refine s_val hF (x_addn (i + 1) (by omega) (by omega) rfl rfl) (by decide) fun a hF => ?_
        refine s_val hF (x_move rfl) (by decide) fun a hF => ?_
        refine s_end (hK' _ _ (by omega) ⟨_, m7, by rw [fold_snoc hq2]; exact hz, m2, hB, hBP, hF.sub _ rfl⟩)
      · have hPl2 := hPp.1
        have hall : ((pts c ks ks.length).drop 1).take i = (pts c ks ks.length).drop 1 := List.take_of_length_le (by rw [List.length_drop]; omega)
        rw [hall, ← levF_eq rfl hp0e] at hz
        have h1z := hz.rs.one1
        refine wp_exit (hK54 _ _ ?_)
        refine wp_rs fun K60 hK60 => ?_
        refine s_val hF (x_ldW wide24 m7 rfl rfl) (by decide) fun a hF => ?_
        refine s_putW hF rfl rfl (size_wide wide24) m2 rfl (one_lc h1z) fun w88 m2 o89 => ?_
        have so89 := o89.size
        have hB := hB.trans (o89.below (by omega))
        have m7 := m7.only o89 (by omega)
        have hz := hz.only o89 (fun k (hk : w0.heap.size ≤ k ∧ k ≠ b2 ∧ k ≠ b7 ∧ k < top2) => by omega)
        refine s_end (hK60 _ _ ?_)
        refine wp_ret (res_cell hF rfl rfl m2 wide24 ⟨_, rfl, ⟨z, rfl, hz.mono (fun k h => h.1)⟩, hB⟩)
  · have hp0 : pts c ks 0 = [] := by rw [pts, if_neg]; rintro (h | h); exact h hq.1; exact hq.2 (by rw [h]; rfl)
    refine wp_rs fun K61 hK61 => ?_
    refine s_val hF (x_fa0 fa36_0 rfl) (by decide) fun a hF => ?_
    refine s_val hF (x_load rfl (m_load flat3 (m1.cell (j := 0) rfl))) (by decide) fun a hF => ?_
    refine s_val hF (x_gtr (b := false) (decide_eq_false (by omega)) rfl rfl) (by decide) fun a hF => ?_
    refine s_val hF (x_move rfl) (by decide) fun a hF => ?_
    refine s_grd 13 hF rfl rfl rfl ?_
    refine s_val hF (x_fa0 fa36_1 rfl) (by decide) fun a hF => ?_
    refine s_grd 13 hF rfl rfl rfl ?_
    refine s_val hF (x_load rfl (m_load flat29 (m1.cell (j := 1) rfl))) (by decide) fun a hF => ?_
    refine s_grd 13 hF rfl rfl rfl ?_
    refine s_val hF (x_len Try.underlying29 rfl) (by decide) fun a hF => ?_
    refine s_grd 13 hF rfl rfl rfl ?_
    refine s_val hF (x_eql (b := false) (decide_eq_false (by omega)) rfl rfl) (by decide) fun a hF => ?_
    refine s_val hF (x_pick (b := false) rfl rfl) (by decide) fun a hF => ?_
    refine s_end (hK61 _ _ ?_)
    refine wp_if hF rfl ?_
    refine wp_skip (hK3 _ _ ?_)
    refine wp_seq_k fun K62 hK62 => ?_
    refine wp_rs fun K63 hK63 => ?_
    refine s_val hF (x_fa0 fa36_1 rfl) (by decide) fun a hF => ?_
    refine s_val hF (x_load rfl (m_load flat29 (m1.cell (j := 1) rfl))) (by decide) fun a hF => ?_
    refine s_val hF (x_len Try.underlying29 rfl) (by decide) fun a hF => ?_
    refine s_val hF (x_move rfl) (by decide) fun a hF => ?_
    refine s_end (hK63 _ _ ?_)
    refine wp_block ?_
    have hJ : ∃ v' o' zs, w4.ownsRow w0.heap.size 24 3 v' zs.length (zs.flatMap lc) ∧ (∀ j, v'.ownBlock = some j → j = o') ∧ v'.ownBlock ≠ some b1 ∧ (w0.heap.size ≤ o' ∧ o' < w4.heap.size) ∧ PL w4 (fun k => b2 < k ∧ k ≠ o' ∧ k < w4.heap.size) zs (pts c ks 0) ∧ Value.slice none 0 0 = v' ∧ (o' = b1 ∨ b2 < o') := ⟨_, b1, [], World.ownsRow_nil _ _ _ _, (fun j h => by cases h), (fun h => by cases h), by have := m1.lt; omega, by rw [hp0]; exact PL.nil, rfl, .inl rfl⟩
    obtain ⟨vj, oj, zj, hj1, hj2, hj3, hj4, hj5, hj6, hj7⟩ := hJ
    rw [hj6] at hF
    refine wp_up ks.length (fun i a w => ∃ v' o' zs, w.ownsRow w0.heap.size 24 3 v' zs.length (zs.flatMap lc) ∧ (∀ j, v'.ownBlock = some j → j = o') ∧ v'.ownBlock ≠ some b1 ∧ (w0.heap.size ≤ o' ∧ o' < w.heap.size) ∧ PL w (fun k => b2 < k ∧ k ≠ o' ∧ k < w.heap.size) zs (pts c ks i) ∧ Blk w b1 36 [.int .i64 c, .slice av ks.length cv] ∧ Blk w b2 24 [.int .i64 0, .int .i64 0, .slice none 0 0] ∧ b2 < o' + b2 + 1 ∧ (o' = b1 ∨ b2 < o') ∧ Below w0.heap.size w0 w ∧ Fs 64 a [(28, .int .i64 (i : Int)), (27, .int .i64 (ks.length : Int)), (26, .slice av ks.length cv), (3, v'), (2, .pointer (some ⟨b2, 0, none⟩))]) ⟨vj, oj, zj, hj1, hj2, hj3, hj4, hj5, m1, m2, by omega, hj7, hB, hF.sub _ rfl⟩ ?_
    repeat clear hF
    clear hB m1 m2
    rintro i a wq hi ⟨vv, o2, zs, hO, hat, hne, hlo, hP, m1, m2, _, ho2b, hB, hF⟩ K' hK'
    have sB := hB.size
    have hm1 := m1.lt
    have hm2 := m2.lt
    obtain ⟨top, htop⟩ : ∃ h, h = wq.heap.size := ⟨_, rfl⟩
    rw [← htop] at hP
    have hPl := hP.1
    have hple := pts_le c ks i
    refine wp_rs fun K64 hK64 => ?_
    refine s_val hF (x_lss rfl rfl rfl) (by decide) fun a hF => ?_
    refine s_end (hK64 _ _ ?_)
    refine wp_seq_k fun K65 hK65 => ?_
    refine wp_iff hF rfl (fun hc29 => ?_) (fun hc29 => ?_)
    · have hgi := hLo.gt i
      obtain ⟨b6, off6, c6, hve, hrowk⟩ := rd_rowI hV (i := i) (by omega)
      cases hve
      refine wp_skip (hK65 _ _ ?_)
      refine wp_seq_k fun K66 hK66 => ?_
      refine wp_block ?_
      refine wp_rs fun K67 hK67 => ?_
      refine s_val hF (x_move rfl) (by decide) fun a hF => ?_
      refine s_val hF (x_ixa rfl rfl (m_ixs i Try.underlying29 el29.size rfl (by omega))) (by decide) fun a hF => ?_
      refine s_val hF (x_load rfl (m_load flat3 (hrowk _ hB))) (by decide) fun a hF => ?_
      refine s_val hF (x_assign rfl) (by decide) fun a hF => ?_
      refine s_val hF (x_assign rfl) (by decide) fun a hF => ?_
      refine s_end (hK67 _ _ ?_)
      rcases (show gt ks i = -1 ∨ gt ks i = 0 ∨ 0 < gt ks i by omega) with hg | hg | hg
      · have hp1 : part1 i (gt ks i) = [] := by rw [part1, if_pos (by omega)]
        refine wp_rs fun K69 hK69 => ?_
        refine s_val hF (x_move rfl) (by decide) fun a hF => ?_
        refine s_val hF (x_build (vs := [(0, _), (1, _)]) rfl (b24_01 _ _ _)) (by decide) fun a hF => ?_
        refine s_alloc hF (by decide) zero24 fun w90 b6 a eb6 m6 B91 zb6 hF => ?_
        have sB91 := B91.size
        have hB := hB.trans (B91.mono hB.size)
        have m1 := m1.old B91
        have m2 := m2.old B91
        have hO := own_below hO B91
        have hP := hP.below B91
        refine s_putW hF rfl rfl (size_wide wide24) m6 rfl (one3 rfl) fun w92 m6 o93 => ?_
        have so93 := o93.size
        have hB := hB.trans (o93.below (by omega))
        have m1 := m1.only o93 (by omega)
        have m2 := m2.only o93 (by omega)
        have hO := own_only hO o93 (fun e => by have := hat _ e; omega)
        have hP := hP.only o93 (fun k (hk : b2 < k ∧ k ≠ o2 ∧ k < top) => by omega)
        refine s_end (hK69 _ _ ?_)
        refine wp_seq_k fun K70 hK70 => ?_
        refine wp_rs fun K71 hK71 => ?_
        refine s_val hF (x_move rfl) (by decide) fun a hF => ?_
        refine s_val hF (x_gtr (b := false) (decide_eq_false (by omega)) rfl rfl) (by decide) fun a hF => ?_
        refine s_end (hK71 _ _ ?_)
        refine wp_if hF rfl ?_
        refine wp_skip (hK70 _ _ ?_)
        refine wp_rs fun K72 hK72 => ?_
        refine s_val hF (x_move rfl) (by decide) fun a hF => ?_
        refine s_val hF (x_geq (b := false) (decide_eq_false (by omega)) rfl rfl) (by decide) fun a hF => ?_
        refine s_end (hK72 _ _ ?_)
        refine wp_if hF rfl ?_
        refine wp_skip (hK66 _ _ ?_)
        refine wp_region_lit ?_
        refine s_val hF (x_addn (i + 1) (by omega) (by omega) rfl rfl) (by decide) fun a hF => ?_
        refine s_val hF (x_move rfl) (by decide) fun a hF => ?_
        refine s_end (hK' _ _ (by omega) ⟨vv, o2, zs, hO, hat, hne, by omega, by rw [pts, hp1, List.append_nil]; exact hP.mono (fun k (hk : b2 < k ∧ k ≠ o2 ∧ k < top) => (by omega : _ ∧ _ ∧ _)), m1, m2, by omega, ho2b, hB, hF.sub _ rfl⟩)
      · have hp1 : part1 i (gt ks i) = [.var i] := by rw [part1, if_neg (by omega), if_pos hg]
        refine wp_rs fun K73 hK73 => ?_
        refine s_val hF (x_move rfl) (by decide) fun a hF => ?_
        refine s_val hF (x_build (vs := [(0, _), (1, _)]) rfl (b24_01 _ _ _)) (by decide) fun a hF => ?_
        refine s_alloc hF (by decide) zero24 fun w94 b6 a eb6 m6 B95 zb6 hF => ?_
        have sB95 := B95.size
        have hB := hB.trans (B95.mono hB.size)
        have m1 := m1.old B95
        have m2 := m2.old B95
        have hO := own_below hO B95
        have hP := hP.below B95
        refine s_putW hF rfl rfl (size_wide wide24) m6 rfl (one3 rfl) fun w96 m6 o97 => ?_
        have so97 := o97.size
        have hB := hB.trans (o97.below (by omega))
        have m1 := m1.only o97 (by omega)
        have m2 := m2.only o97 (by omega)
        have hO := own_only hO o97 (fun e => by have := hat _ e; omega)
        have hP := hP.only o97 (fun k (hk : b2 < k ∧ k ≠ o2 ∧ k < top) => by omega)
        refine s_end (hK73 _ _ ?_)
        refine wp_seq_k fun K74 hK74 => ?_
        refine wp_rs fun K75 hK75 => ?_
        refine s_val hF (x_move rfl) (by decide) fun a hF => ?_
        refine s_val hF (x_gtr (b := false) (decide_eq_false (by omega)) rfl rfl) (by decide) fun a hF => ?_
        refine s_end (hK75 _ _ ?_)
        refine wp_if hF rfl ?_
        refine wp_skip (hK74 _ _ ?_)
        refine wp_rs fun K76 hK76 => ?_
        refine s_val hF (x_move rfl) (by decide) fun a hF => ?_
        refine s_val hF (x_geq (b := true) (decide_eq_true (by omega)) rfl rfl) (by decide) fun a hF => ?_
        refine s_end (hK76 _ _ ?_)
        refine wp_if hF rfl ?_
        refine wp_region_lit ?_
        refine s_val hF (x_move rfl) (by decide) fun a hF => ?_
        refine s_val hF (x_ldW wide24 m6 rfl rfl) (by decide) fun a hF => ?_
        refine s_litG [lv (2, (i : Int), .slice none 0 0)] el22 hF (by decide) rfl (by simp [Value.cells, lc]) rfl (by decide) (by decide) fun w98 bl a ebl ml B99 zbl hF => ?_
        have sB99 := B99.size
        have hB := hB.trans (B99.mono hB.size)
        have m1 := m1.old B99
        have m2 := m2.old B99
        have hO := own_below hO B99
        have hP := hP.below B99
        have m6 := m6.old B99
        have ml : Blk w98 bl 24 (lc (2, (i : Int), .slice none 0 0)) := by simpa [Value.cells] using ml
        refine s_app1 (o := o2) el22 hF (by decide) rfl rfl hO ml rfl (one3 rfl) hat (by omega) (by omega) (by decide) (by omega) fun v3 w100 a o3 hOn hOatn how hsrc k101 hkeep hF => ?_
        have sk101 := k101.size
        have hB := k101.under hB (by omega)
        have m1 : Blk w100 b1 _ _ := (hkeep _ m1.lt hne).trans m1
        have m2 := m2.k2 k101 (by omega)
        have hP := hP.k2 k101 (fun k (hk : b2 < k ∧ k ≠ o2 ∧ k < top) => by omega)
        have m6 := m6.k2 k101 (by omega)
        have ml := ml.k2 k101 (by omega)
        have hO := hOn
        have hO_at := hOatn
        have hneg : v3.ownBlock ≠ some b1 := fun h => by rcases hsrc b1 h with h | h; exact hne h; omega
        refine s_val hF (x_assign rfl) (by decide) fun a hF => ?_
        refine s_end (hK66 _ _ ?_)
        refine wp_region_lit ?_
        refine s_val hF (x_addn (i + 1) (by omega) (by omega) rfl rfl) (by decide) fun a hF => ?_
        refine s_val hF (x_move rfl) (by decide) fun a hF => ?_
        refine s_end (hK' _ _ (by omega) ⟨v3, o3, zs ++ [(2, (i : Int), .slice none 0 0)], by rw [fm3_app]; simpa using hO, hO_at, hneg, by omega, by rw [pts, hp1]; exact (hP.mono (fun k (hk : b2 < k ∧ k ≠ o2 ∧ k < top) => (by omega : _ ∧ _ ∧ _))).snoc (⟨rfl, rfl, Rd.nil _ _⟩), m1, m2, by omega, by omega, hB, hF.sub _ rfl⟩)
      · have hp1 : part1 i (gt ks i) = [.succ (gt ks i).toNat (.var i)] := by rw [part1, if_neg (by omega), if_neg (by omega)]
        refine wp_rs fun K77 hK77 => ?_
        refine s_val hF (x_move rfl) (by decide) fun a hF => ?_
        refine s_val hF (x_build (vs := [(0, _), (1, _)]) rfl (b24_01 _ _ _)) (by decide) fun a hF => ?_
        refine s_alloc hF (by decide) zero24 fun w102 b6 a eb6 m6 B103 zb6 hF => ?_
        have sB103 := B103.size
        have hB := hB.trans (B103.mono hB.size)
        have m1 := m1.old B103
        have m2 := m2.old B103
        have hO := own_below hO B103
        have hP := hP.below B103
        refine s_putW hF rfl rfl (size_wide wide24) m6 rfl (one3 rfl) fun w104 m6 o105 => ?_
        have so105 := o105.size
        have hB := hB.trans (o105.below (by omega))
        have m1 := m1.only o105 (by omega)
        have m2 := m2.only o105 (by omega)
        have hO := own_only hO o105 (fun e => by have := hat _ e; omega)
        have hP := hP.only o105 (fun k (hk : b2 < k ∧ k ≠ o2 ∧ k < top) => by omega)
        refine s_end (hK77 _ _ ?_)
        refine wp_seq_k fun K78 hK78 => ?_
        refine wp_rs fun K79 hK79 => ?_
        refine s_val hF (x_move rfl) (by decide) fun a hF => ?_
        refine s_val hF (x_gtr (b := true) (decide_eq_true (by omega)) rfl rfl) (by decide) fun a hF => ?_
        refine s_end (hK79 _ _ ?_)
        refine wp_if hF rfl ?_
        refine wp_region_lit ?_
        refine s_val hF (x_move rfl) (by decide) fun a hF => ?_
        refine s_val hF (x_ldW wide24 m6 rfl rfl) (by decide) fun a hF => ?_
        refine s_litG [lv (2, (i : Int), .slice none 0 0)] el22 hF (by decide) rfl (by simp [Value.cells, lc]) rfl (by decide) (by decide) fun w106 bs a ebs ms B107 zbs hF => ?_
        have sB107 := B107.size
        have hB := hB.trans (B107.mono hB.size)
        have m1 := m1.old B107
        have m2 := m2.old B107
        have hO := own_below hO B107
        have hP := hP.below B107
        have m6 := m6.old B107
        have ms : Blk w106 bs 24 (lc (2, (i : Int), .slice none 0 0)) := by simpa [Value.cells] using ms
        refine s_val hF (x_build (vs := [(0, _), (1, _), (2, _)]) rfl (b24_012 _ _ _ _ _ _)) (by decide) fun a hF => ?_
        refine s_putW hF rfl rfl (size_wide wide24) m6 rfl (one3 rfl) fun w108 m6 o109 => ?_
        have so109 := o109.size
        have hB := hB.trans (o109.below (by omega))
        have m1 := m1.only o109 (by omega)
        have m2 := m2.only o109 (by omega)
        have hO := own_only hO o109 (fun e => by have := hat _ e; omega)
        have hP := hP.only o109 (fun k (hk : b2 < k ∧ k ≠ o2 ∧ k < top) => by omega)
        have ms := ms.only o109 (by omega)
        refine s_end (hK78 _ _ ?_)
        refine wp_rs fun K80 hK80 => ?_
        refine s_val hF (x_move rfl) (by decide) fun a hF => ?_
        refine s_val hF (x_geq (b := true) (decide_eq_true (by omega)) rfl rfl) (by decide) fun a hF => ?_
        refine s_end (hK80 _ _ ?_)
        refine wp_if hF rfl ?_
        refine wp_region_lit ?_
        refine s_val hF (x_move rfl) (by decide) fun a hF => ?_
        refine s_val hF (x_ldW wide24 m6 rfl rfl) (by decide) fun a hF => ?_
        refine s_litG [lv (3, gt ks i, .slice (some ⟨bs, 0, none⟩) 1 1)] el22 hF (by decide) rfl (by simp [Value.cells, lc]) rfl (by decide) (by decide) fun w110 bl a ebl ml B111 zbl hF => ?_
        have sB111 := B111.size
        have hB := hB.trans (B111.mono hB.size)
        have m1 := m1.old B111
        have m2 := m2.old B111
        have hO := own_below hO B111
        have hP := hP.below B111
        have m6 := m6.old B111
        have ms := ms.old B111
        have ml : Blk w110 bl 24 (lc (3, gt ks i, .slice (some ⟨bs, 0, none⟩) 1 1)) := by simpa [Value.cells] using ml
        refine s_app1 (o := o2) el22 hF (by decide) rfl rfl hO ml rfl (one3 rfl) hat (by omega) (by omega) (by decide) (by omega) fun v3 w112 a o3 hOn hOatn how hsrc k113 hkeep hF => ?_
        have sk113 := k113.size
        have hB := k113.under hB (by omega)
        have m1 : Blk w112 b1 _ _ := (hkeep _ m1.lt hne).trans m1
        have m2 := m2.k2 k113 (by omega)
        have hP := hP.k2 k113 (fun k (hk : b2 < k ∧ k ≠ o2 ∧ k < top) => by omega)
        have m6 := m6.k2 k113 (by omega)
        have ms := ms.k2 k113 (by omega)
        have ml := ml.k2 k113 (by omega)
        have hO := hOn
        have hO_at := hOatn
        have hneg : v3.ownBlock ≠ some b1 := fun h => by rcases hsrc b1 h with h | h; exact hne h; omega
        refine s_val hF (x_assign rfl) (by decide) fun a hF => ?_
        refine s_end (hK66 _ _ ?_)
        refine wp_region_lit ?_
        refine s_val hF (x_addn (i + 1) (by omega) (by omega) rfl rfl) (by decide) fun a hF => ?_
        refine s_val hF (x_move rfl) (by decide) fun a hF => ?_
        refine s_end (hK' _ _ (by omega) ⟨v3, o3, zs ++ [(3, gt ks i, .slice (some ⟨bs, 0, none⟩) 1 1)], by rw [fm3_app]; simpa using hO, hO_at, hneg, by omega, by rw [pts, hp1]; exact (hP.mono (fun k (hk : b2 < k ∧ k ≠ o2 ∧ k < top) => (by omega : _ ∧ _ ∧ _))).snoc (⟨rfl, by show gt ks i = _; omega, (2, (i : Int), .slice none 0 0), Rd.blk (k := 3) ms rfl, fun j h => by cases h; show b2 < bs ∧ bs ≠ o3 ∧ bs < _; have := ms.lt; omega, ⟨rfl, rfl, Rd.nil _ _⟩⟩), m1, m2, by omega, by omega, hB, hF.sub _ rfl⟩)
    · obtain rfl : i = ks.length := by omega
      have hVp := Rd.own hO
      have hPp := hP.mono (B := fun k => w0.heap.size ≤ k ∧ k ≠ b2 ∧ k < wq.heap.size) (fun k (hk : b2 < k ∧ k ≠ o2 ∧ k < top) => (by omega : _ ∧ _ ∧ _))
      have hBP := Below.refl wq.heap.size wq
      have hppos := pts_pos (c := c) hTm
      have hPl := hPp.1
      obtain ⟨b8, off8, c8, z0, hve, hz0, hrow0⟩ := rd_row3 hVp (i := 0) (by omega)
      cases hve
      obtain ⟨p0, hp0e, hz0r⟩ := hPp.at hz0
      have h1z0 := hz0r.rs.one1
      clear hP
      refine wp_exit (hK62 _ _ ?_)
      refine wp_rs fun K81 hK81 => ?_
      refine s_val hF (x_move rfl) (by decide) fun a hF => ?_
      refine s_val hF (x_ixa rfl rfl (m_ixsK 0 Try.underlying22 el22.size rfl (by omega))) (by decide) fun a hF => ?_
      refine s_val hF (x_ldA wide24 (hrow0 _ hBP) rfl rfl) (by decide) fun a hF => ?_
      refine s_alloc hF (by decide) zero24 fun w114 b7 a eb7 m7 B115 zb7 hF => ?_
      have sB115 := B115.size
      have hB := hB.trans (B115.mono hB.size)
      have hBP := hBP.trans (B115.mono hBP.size)
      have m1 := m1.old B115
      have m2 := m2.old B115
      refine s_putW hF rfl rfl (size_wide wide24) m7 rfl (one_lc h1z0) fun w116 m7 o117 => ?_
      have so117 := o117.size
      have hB := hB.trans (o117.below (by omega))
      have hBP := hBP.trans (o117.below (by omega))
      have m1 := m1.only o117 (by omega)
      have m2 := m2.only o117 (by omega)
      refine s_end (hK81 _ _ ?_)
      refine wp_seq_k fun K82 hK82 => ?_
      have hV2 := rd_tail hVp (by omega)
      obtain ⟨a2, ha2⟩ : ∃ a2, a2 = (if c8 = 1 then some (⟨b8, off8, none⟩ : Addr) else (some (⟨b8, off8, none⟩ : Addr)).map (·.add (1 * 3))) := ⟨_, rfl⟩
      rw [← ha2] at hV2
      have hdl : (zs.drop 1).length = zs.length - 1 := by rw [List.length_drop]
      have hb7 := m7.lt
      refine wp_rs fun K83 hK83 => ?_
      refine s_val hF (x_move rfl) (by decide) fun a hF => ?_
      refine s_val hF (x_slice (v := .slice a2 (zs.length - 1) (c8 - 1)) (vlo := some (.int .i64 1)) (vhi := none) (vmx := none) rfl rfl rfl rfl (by rw [ha2]; exact m_sliceFK 1 Try.underlying22 el22.size rfl (by omega))) (by decide) fun a hF => ?_
      refine s_val hF (x_len Try.underlying22 rfl) (by decide) fun a hF => ?_
      refine s_val hF (x_move rfl) (by decide) fun a hF => ?_
      refine s_end (hK83 _ _ ?_)
      refine wp_block ?_
      refine wp_up (zs.length - 1) (fun i a w => ∃ z, Blk w b7 24 (lc z) ∧ RSn w (fun k => w0.heap.size ≤ k ∧ k ≠ b2 ∧ k ≠ b7) ((((pts c ks ks.length).drop 1).take i).foldl SL.mx p0) z ∧ Blk w b2 24 [.int .i64 0, .int .i64 0, .slice none 0 0] ∧ Below w0.heap.size w0 w ∧ Below wq.heap.size wq w ∧ Fs 64 a [(54, .int .i64 (i : Int)), (53, .int .i64 ((zs.length - 1 : Nat) : Int)), (52, .slice a2 (zs.length - 1) (c8 - 1)), (7, .pointer (some ⟨b7, 0, none⟩)), (2, .pointer (some ⟨b2, 0, none⟩))]) ⟨z0, m7, (hz0r.below hBP).mono (fun k h => ⟨h.1, h.2.1, by have := h.2.2; omega⟩), m2, hB, hBP, hF.sub _ rfl⟩ ?_
      repeat clear hF
      clear hB hBP m7 m2
      rintro i a w hi ⟨z, m7, hz, m2, hB, hBP, hF⟩ K' hK'
      have sB := hB.size
      have sBP := hBP.size
      have hml := m7.lt
      obtain ⟨top2, htop2⟩ : ∃ h, h = w.heap.size := ⟨_, rfl⟩
      have hz := hz.valid.mono (B := fun k => w0.heap.size ≤ k ∧ k ≠ b2 ∧ k ≠ b7 ∧ k < top2) (fun k h => ⟨h.1.1, h.1.2.1, h.1.2.2, by have := h.2; omega⟩)
      refine wp_rs fun K84 hK84 => ?_
      refine s_val hF (x_lss (b := decide (i < zs.length - 1)) (decide_eq_decide.2 (by omega)) rfl rfl) (by decide) fun a hF => ?_
      refine s_end (hK84 _ _ ?_)
      refine wp_seq_k fun K85 hK85 => ?_
      refine wp_iff hF rfl (fun hc55 => ?_) (fun hc55 => ?_)
      · obtain ⟨b9, off9, c9, y, hve, hy, hrow⟩ := rd_row3 hV2 (i := i) (by omega)
        rw [hdl] at hve
        cases hve
        have hy1 : zs[i + 1]? = some y := by rw [List.getElem?_drop, Nat.add_comm] at hy; exact hy
        obtain ⟨q, hq1, hyr⟩ := hPp.at hy1
        have hq2 : ((pts c ks ks.length).drop 1)[i]? = some q := by rw [List.getElem?_drop, Nat.add_comm]; exact hq1
        have h1y := hyr.rs.one1
        have h1z := hz.rs.one1
        refine wp_skip (hK85 _ _ ?_)
        refine wp_seq_k fun K86 hK86 => ?_
        refine wp_block ?_
        refine wp_rs fun K87 hK87 => ?_
        refine s_val hF (x_ixa rfl rfl (m_ixsK i Try.underlying22 el22.size rfl (by omega))) (by decide) fun a hF => ?_
        refine s_val hF (x_ldA wide24 (hrow _ hBP) rfl rfl) (by decide) fun a hF => ?_
        refine s_alloc hF (by decide) zero24 fun w118 b9 a eb9 m9 B119 zb9 hF => ?_
        have sB119 := B119.size
        have hB := hB.trans (B119.mono hB.size)
        have hBP := hBP.trans (B119.mono hBP.size)
        have m7 := m7.old B119
        have m2 := m2.old B119
        have hz := hz.below B119
        refine s_putW hF rfl rfl (size_wide wide24) m9 rfl (one_lc h1y) fun w120 m9 o121 => ?_
        have so121 := o121.size
        have hB := hB.trans (o121.below (by omega))
        have hBP := hBP.trans (o121.below (by omega))
        have m7 := m7.only o121 (by omega)
        have m2 := m2.only o121 (by omega)
        have hz := hz.only o121 (fun k (hk : w0.heap.size ≤ k ∧ k ≠ b2 ∧ k ≠ b7 ∧ k < top2) => by omega)
        refine s_end (hK87 _ _ ?_)
        refine wp_region_lit ?_
        refine s_val hF (x_ldW wide24 m7 rfl rfl) (by decide) fun a hF => ?_
        refine s_val hF (x_ldW wide24 m9 rfl rfl) (by decide) fun a hF => ?_
        refine s_litG [lv z, lv y] el22 hF (by decide) rfl (by simp [Value.cells, lc]) rfl (by decide) (by decide) fun w122 bl a ebl ml B123 zbl hF => ?_
        have sB123 := B123.size
        have hB := hB.trans (B123.mono hB.size)
        have hBP := hBP.trans (B123.mono hBP.size)
        have m7 := m7.old B123
        have m2 := m2.old B123
        have hz := hz.below B123
        have m9 := m9.old B123
        refine s_val hF (x_build (vs := [(0, _), (2, _)]) rfl (b24_02 _ _ _ _ _)) (by decide) fun a hF => ?_
        refine s_putW (vs := lc (4, 0, .slice (some ⟨bl, 0, none⟩) 2 2)) hF rfl rfl (size_wide wide24) m7 rfl (one3 rfl) fun w124 m7 o125 => ?_
        have so125 := o125.size
        have hB := hB.trans (o125.below (by omega))
        have hBP := hBP.trans (o125.below (by omega))
        have m2 := m2.only o125 (by omega)
        have hz := hz.only o125 (fun k (hk : w0.heap.size ≤ k ∧ k ≠ b2 ∧ k ≠ b7 ∧ k < top2) => by omega)
        have m9 := m9.only o125 (by omega)
        have ml := ml.only o125 (by omega)
        have hz : RSn w124 (fun k => w0.heap.size ≤ k ∧ k ≠ b2 ∧ k ≠ b7) (.mx ((((pts c ks ks.length).drop 1).take i).foldl SL.mx p0) q) (4, 0, .slice (some ⟨bl, 0, none⟩) 2 2) := ⟨rfl, z, y, Rd.blk (k := 3) (by simpa [Value.cells] using ml) (by simp [lc]), fun j h => by cases h; show _ ≤ bl ∧ bl ≠ b2 ∧ bl ≠ b7; omega, hz.mono (fun k h => ⟨h.1, h.2.1, h.2.2.1⟩), (hyr.below hBP).mono (fun k h => ⟨h.1, h.2.1, by have := h.2.2; omega⟩)⟩
        refine s_end (hK86 _ _ ?_)
        refine wp_region_lit ?_
        refine s_val hF (x_addn (i + 1) (by omega) (by omega) rfl rfl) (by decide) fun a hF => ?_
        refine s_val hF (x_move rfl) (by decide) fun a hF => ?_
        refine s_end (hK' _ _ (by omega) ⟨_, m7, by rw [fold_snoc hq2]; exact hz, m2, hB, hBP, hF.sub _ rfl⟩)
      · have hPl2 := hPp.1
        have hall : ((pts c ks ks.length).drop 1).take i = (pts c ks ks.length).drop 1 := List.take_of_length_le (by rw [List.length_drop]; omega)
        rw [hall, ← levF_eq rfl hp0e] at hz
        have h1z := hz.rs.one1
        refine wp_exit (hK82 _ _ ?_)
        refine wp_rs fun K88 hK88 => ?_
        refine s_val hF (x_ldW wide24 m7 rfl rfl) (by decide) fun a hF => ?_
        refine s_putW hF rfl rfl (size_wide wide24) m2 rfl (one_lc h1z) fun w126 m2 o127 => ?_
        have so127 := o127.size
        have hB := hB.trans (o127.below (by omega))
        have m7 := m7.only o127 (by omega)
        have hz := hz.only o127 (fun k (hk : w0.heap.size ≤ k ∧ k ≠ b2 ∧ k ≠ b7 ∧ k < top2) => by omega)
        refine s_end (hK88 _ _ ?_)
        refine wp_ret (res_cell hF rfl rfl m2 wide24 ⟨_, rfl, ⟨z, rfl, hz.mono (fun k h => h.1)⟩, hB⟩)
end Go.Proofs.Ytnnkggfhhkhnmaa
