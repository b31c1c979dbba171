/- The reference's tidy, both, plus, Norm, sameForm, Equal, Leq. -/
import Derived.Test.YtgpciphjhnabcaaLev6
namespace Go.Proofs.Ytgpciphjhnabcaa
open Go.RowKit Go.Shelf
set_option linter.unusedVariables false
set_option linter.unusedSimpArgs false

theorem mxl_take {K : List Int} {i : Nat} (h : i < K.length) : mxl (K.take (i + 1)) = max (mxl (K.take i)) (gt K i) := by
  rw [mxl, List.take_add_one, List.getElem?_eq_getElem h, gt_lt h, List.foldl_append]; rfl
theorem setl_step {c : Int} {K : List Int} {i : Nat} (h : i < K.length) (hc : 0 ≤ c) : (gt K i ≥ setl c (K.take i) → setl c (K.take (i + 1)) = 0) ∧ (¬ gt K i ≥ setl c (K.take i) → setl c (K.take (i + 1)) = setl c (K.take i)) := by
  have h1 := setl_is c (K.take i)
  have h2 := setl_is c (K.take (i + 1))
  rw [mxl_take h] at h2
  omega
theorem trim_step {ks : List Int} {f : Nat} (h : f + 1 ≤ ks.length) (hn : gt ks f < 0) : trim (f + 1) (ks.take (f + 1)) = trim f (ks.take f) := by
  have hl : (ks.take (f + 1)).length = f + 1 := by rw [List.length_take]; omega
  rw [trim, hl, if_pos ⟨by omega, by rw [gt_take, if_pos (by omega)]; exact hn⟩, List.take_take]
  congr 2
  omega
theorem trim_stop {ks : List Int} {f : Nat} (h : f ≤ ks.length) (hn : f = 0 ∨ ¬ gt ks (f - 1) < 0) : trim f (ks.take f) = ks.take f := by
  have hl : (ks.take f).length = f := by rw [List.length_take]; omega
  cases f with
  | zero => rfl
  | succ f => rw [trim, if_neg]; rw [hl, gt_take, if_pos (by omega)]; rintro ⟨_, h2⟩; rcases hn with hn | hn; omega; exact hn h2
theorem ints_take (ks : List Int) (m : Nat) : ints (ks.take m) = (ints ks).take m := List.map_take
theorem rd_take {W : World} {a : Option Addr} {c : Nat} {ks : List Int} (h : Rd W (.slice a ks.length c) 1 ks.length (ints ks)) (m : Nat) (hm : m ≤ ks.length) : Rd W (.slice a m c) 1 (ks.take m).length (ints (ks.take m)) := by
  have := h.upto m hm
  rw [Nat.mul_one] at this
  rw [ints_take, show (ks.take m).length = m by rw [List.length_take]; omega]
  exact this

set_option maxRecDepth 100000 in
set_option maxHeartbeats 1600000 in
theorem tidy61 (c : Int) (ks : List Int) (v : Value) (w0 : World) (hc : 0 ≤ c) (hl : ks.length ≤ 1000000) (hV : Rd w0 v 1 ks.length (ints ks)) : Calls Try.prog 133 #[.agg [.int .i64 c, v].toArray] w0 fun e w' => ∃ u, e = .returned u ∧ (∃ v', u = .agg [.int .i64 (setl c (tidyK ks)), v'].toArray ∧ Rd w' v' 1 (tidyK ks).length (ints (tidyK ks)) ∧ v'.ownBlock = v.ownBlock) ∧ Below w0.heap.size w0 w' := by
  obtain ⟨av, cv, rfl, hcv⟩ := hV.form
  have hB := Below.refl w0.heap.size w0
  have sB := hB.size
  refine calls_fs 42 [(0, .agg [.int .i64 c, .slice av ks.length cv].toArray)] Try.func133 rfl rfl rfl rfl rfl fun a hF => ?_
  refine wp_rs fun K1 hK1 => ?_
  refine s_box ([.int .i64 c, .slice av ks.length cv]) hF (by decide) rfl rfl fun w2 b1 a eb1 m1 B3 zb1 hF => ?_
  have sB3 := B3.size
  have hB := hB.trans (B3.mono hB.size)
  refine s_alloc hF (by decide) zero36 fun w4 b2 a eb2 m2 B5 zb2 hF => ?_
  have sB5 := B5.size
  have hB := hB.trans (B5.mono hB.size)
  have m1 := m1.old B5
  refine s_end (hK1 _ _ ?_)
  refine wp_seq_k fun K2 hK2 => ?_
  refine wp_block ?_
  refine wp_up ks.length (fun j a w => tidyK ks = trim (ks.length - j) (ks.take (ks.length - j)) ∧ Blk w b1 104 [.int .i64 c, .slice av (ks.length - j) cv] ∧ Blk w b2 104 [.int .i64 0, .slice none 0 0] ∧ Below w0.heap.size w0 w ∧ Fs 42 a [(1, .pointer (some ⟨b1, 0, none⟩)), (2, .pointer (some ⟨b2, 0, none⟩))]) ⟨by rw [Nat.sub_zero, List.take_length, tidyK], m1, m2, hB, hF.sub _ rfl⟩ ?_
  have hb12 : w0.heap.size ≤ b1 ∧ w0.heap.size ≤ b2 ∧ b1 ≠ b2 := ⟨by omega, by omega, by omega⟩
  repeat clear hF
  clear hB m1 m2 eb1 eb2 zb1 zb2
  rintro j a w hj ⟨htr, m1, m2, hB, hF⟩ K' hK'
  have sB := hB.size
  obtain ⟨m, hm⟩ : ∃ m, m = ks.length - j := ⟨_, rfl⟩
  rw [← hm] at htr m1
  refine wp_seq_k fun K3 hK3 => ?_
  rcases (show m = 0 ∨ (0 < m ∧ gt ks (m - 1) < 0) ∨ (0 < m ∧ 0 ≤ gt ks (m - 1)) by omega) with hq | hq | hq
  · have hst : tidyK ks = ks.take m := by rw [htr]; exact trim_stop (by omega) (by omega)
    refine wp_rs fun K5 hK5 => ?_
    refine s_val hF (x_fa0 fa36_1 rfl) (by decide) fun a hF => ?_
    refine s_val hF (x_load rfl (m_load flat29 (m1.cell (j := 1) rfl))) (by decide) fun a hF => ?_
    refine s_val hF (x_len Try.underlying83 rfl) (by decide) fun a hF => ?_
    refine s_val hF (x_gtr (b := false) (decide_eq_false (by omega)) rfl rfl) (by decide) fun a hF => ?_
    refine s_val hF (x_move rfl) (by decide) fun a hF => ?_
    refine s_grdn 9 hF rfl rfl (by decide) fun a hF => ?_
    refine s_grdn 9 hF rfl rfl (by decide) fun a hF => ?_
    refine s_grdn 9 hF rfl rfl (by decide) fun a hF => ?_
    refine s_grdn 9 hF rfl rfl (by decide) fun a hF => ?_
    refine s_grdn 9 hF rfl rfl (by decide) fun a hF => ?_
    refine s_grdn 9 hF rfl rfl (by decide) fun a hF => ?_
    refine s_grdn 9 hF rfl rfl (by decide) fun a hF => ?_
    refine s_grdn 9 hF rfl rfl (by decide) fun a hF => ?_
    refine s_grdn 9 hF rfl rfl (by decide) fun a hF => ?_
    refine s_val hF (x_pick (b := false) rfl rfl) (by decide) fun a hF => ?_
    refine s_end (hK5 _ _ ?_)
    refine wp_if hF rfl ?_
    refine wp_exit (hK2 _ _ ?_)
    refine wp_seq_k fun K6 hK6 => ?_
    refine wp_rs fun K7 hK7 => ?_
    refine s_val hF (x_fa0 fa36_1 rfl) (by decide) fun a hF => ?_
    refine s_val hF (x_load rfl (m_load flat29 (m1.cell (j := 1) rfl))) (by decide) fun a hF => ?_
    refine s_val hF (x_len Try.underlying83 rfl) (by decide) fun a hF => ?_
    refine s_val hF (x_move rfl) (by decide) fun a hF => ?_
    refine s_end (hK7 _ _ ?_)
    refine wp_block ?_
    refine wp_up m (fun i a w => Blk w b1 104 [.int .i64 (setl c ((ks.take m).take i)), .slice av m cv] ∧ Blk w b2 104 [.int .i64 0, .slice none 0 0] ∧ Below w0.heap.size w0 w ∧ Fs 42 a [(31, .int .i64 (i : Int)), (30, .int .i64 (m : Int)), (29, .slice av m cv), (1, .pointer (some ⟨b1, 0, none⟩)), (2, .pointer (some ⟨b2, 0, none⟩))]) ⟨by rw [show setl c ((ks.take m).take 0) = c by have := setl_is c []; have h2 : mxl [] = -1 := rfl; rw [List.take_zero]; omega]; exact m1, m2, hB, hF.sub _ rfl⟩ ?_
    clear hF hB m1 m2
    rintro i a w hi ⟨m1, m2, hB, hF⟩ K' hK'
    have sB := hB.size
    refine wp_rs fun K8 hK8 => ?_
    refine s_val hF (x_lss rfl rfl rfl) (by decide) fun a hF => ?_
    refine s_end (hK8 _ _ ?_)
    refine wp_seq_k fun K9 hK9 => ?_
    refine wp_iff hF rfl (fun hc32 => ?_) (fun hc32 => ?_)
    · obtain ⟨b4, off4, c4, hve, hrow2⟩ := rd_rowI (rd_take hV m (by omega)) (i := i) (by rw [List.length_take]; omega)
      rw [List.length_take, Nat.min_eq_left (by omega)] at hve
      cases hve
      have hss := setl_step (c := c) (K := ks.take m) (i := i) (by rw [List.length_take]; omega) hc
      refine wp_skip (hK9 _ _ ?_)
      refine wp_seq_k fun K10 hK10 => ?_
      refine wp_block ?_
      refine wp_rs fun K11 hK11 => ?_
      refine s_val hF (x_ixa rfl rfl (m_ixs i Try.underlying83 el29.size rfl (by omega))) (by decide) fun a hF => ?_
      refine s_val hF (x_load rfl (m_load flat3 (hrow2 _ hB))) (by decide) fun a hF => ?_
      refine s_val hF (x_assign rfl) (by decide) fun a hF => ?_
      refine s_end (hK11 _ _ ?_)
      refine wp_rs fun K12 hK12 => ?_
      refine s_val hF (x_move rfl) (by decide) fun a hF => ?_
      refine s_val hF (x_fa0 fa36_0 rfl) (by decide) fun a hF => ?_
      refine s_val hF (x_load rfl (m_load flat3 (m1.cell (j := 0) rfl))) (by decide) fun a hF => ?_
      refine s_val hF (x_geq rfl rfl rfl) (by decide) fun a hF => ?_
      refine s_end (hK12 _ _ ?_)
      refine wp_iff hF rfl (fun hc38 => ?_) (fun hc38 => ?_)
      · have hs2 := hss.1 hc38
        refine wp_region_lit ?_
        refine s_val hF (x_fa0 fa36_0 rfl) (by decide) fun a hF => ?_
        refine s_put hF rfl rfl flat3 m1 (by simp) rfl fun w6 m1 o7 => ?_
        have so7 := o7.size
        have hB := hB.trans (o7.below (by omega))
        have m2 := m2.only o7 (by omega)
        refine s_end (hK10 _ _ ?_)
        refine wp_region_lit ?_
        refine s_val hF (x_addn (i + 1) (by omega) (by omega) rfl rfl) (by decide) fun a hF => ?_
        refine s_val hF (x_move rfl) (by decide) fun a hF => ?_
        refine s_end (hK' _ _ (by omega) ⟨by rw [hs2]; exact m1, m2, hB, hF.sub _ rfl⟩)
      · have hs2 := hss.2 hc38
        refine wp_skip (hK10 _ _ ?_)
        refine wp_region_lit ?_
        refine s_val hF (x_addn (i + 1) (by omega) (by omega) rfl rfl) (by decide) fun a hF => ?_
        refine s_val hF (x_move rfl) (by decide) fun a hF => ?_
        refine s_end (hK' _ _ (by omega) ⟨by rw [hs2]; exact m1, m2, hB, hF.sub _ rfl⟩)
    · refine wp_exit (hK6 _ _ ?_)
      refine wp_rs fun K13 hK13 => ?_
      refine s_val hF (x_ldW wide36 m1 rfl rfl) (by decide) fun a hF => ?_
      refine s_putW hF rfl rfl (size_wide wide36) m2 rfl (one2 rfl) fun w8 m2 o9 => ?_
      have so9 := o9.size
      have hB := hB.trans (o9.below (by omega))
      have m1 := m1.only o9 (by omega)
      refine s_end (hK13 _ _ ?_)
      obtain rfl : i = m := by omega
      rw [show (ks.take i).take i = tidyK ks by rw [List.take_take, Nat.min_self]; exact hst.symm] at m2
      refine wp_ret (res_cell hF rfl rfl m2 wide36 ⟨_, rfl, ⟨_, rfl, by rw [hst]; exact (rd_take hV i (by omega)).below hB, by first | rfl | (cases av <;> rfl)⟩, hB⟩)
  · have hst : tidyK ks = trim (m - 1) (ks.take (m - 1)) := by rw [htr]; have := trim_step (ks := ks) (f := m - 1) (by omega) hq.2; rwa [show m - 1 + 1 = m by omega] at this
    obtain ⟨b3, off3, c3, hve, hrow⟩ := rd_rowI (rd_take hV m (by omega)) (i := m - 1) (by rw [List.length_take]; omega)
    rw [List.length_take, Nat.min_eq_left (by omega)] at hve
    cases hve
    rw [gt_take, if_pos (by omega)] at hrow
    refine wp_rs fun K14 hK14 => ?_
    refine s_val hF (x_fa0 fa36_1 rfl) (by decide) fun a hF => ?_
    refine s_val hF (x_load rfl (m_load flat29 (m1.cell (j := 1) rfl))) (by decide) fun a hF => ?_
    refine s_val hF (x_len Try.underlying83 rfl) (by decide) fun a hF => ?_
    refine s_val hF (x_gtr (b := true) (decide_eq_true (by omega)) rfl rfl) (by decide) fun a hF => ?_
    refine s_val hF (x_move rfl) (by decide) fun a hF => ?_
    refine s_grd 9 hF rfl rfl rfl ?_
    refine s_val hF (x_fa0 fa36_1 rfl) (by decide) fun a hF => ?_
    refine s_grd 9 hF rfl rfl rfl ?_
    refine s_val hF (x_load rfl (m_load flat29 (m1.cell (j := 1) rfl))) (by decide) fun a hF => ?_
    refine s_grd 9 hF rfl rfl rfl ?_
    refine s_val hF (x_fa0 fa36_1 rfl) (by decide) fun a hF => ?_
    refine s_grd 9 hF rfl rfl rfl ?_
    refine s_val hF (x_load rfl (m_load flat29 (m1.cell (j := 1) rfl))) (by decide) fun a hF => ?_
    refine s_grd 9 hF rfl rfl rfl ?_
    refine s_val hF (x_len Try.underlying83 rfl) (by decide) fun a hF => ?_
    refine s_grd 9 hF rfl rfl rfl ?_
    refine s_val hF (x_subn (m - 1) (by omega) (by omega) rfl rfl) (by decide) fun a hF => ?_
    refine s_grd 9 hF rfl rfl rfl ?_
    refine s_val hF (x_ixa rfl rfl (m_ixs (m - 1) Try.underlying83 el29.size rfl (by omega))) (by decide) fun a hF => ?_
    refine s_grd 9 hF rfl rfl rfl ?_
    refine s_val hF (x_load rfl (m_load flat3 (hrow _ hB))) (by decide) fun a hF => ?_
    refine s_grd 9 hF rfl rfl rfl ?_
    refine s_val hF (x_lss (b := true) (decide_eq_true (by omega)) rfl rfl) (by decide) fun a hF => ?_
    refine s_val hF (x_pick (b := true) rfl rfl) (by decide) fun a hF => ?_
    refine s_end (hK14 _ _ ?_)
    refine wp_if hF rfl ?_
    refine wp_skip (hK3 _ _ ?_)
    refine wp_block ?_
    refine wp_region_lit ?_
    refine s_val hF (x_fa0 fa36_1 rfl) (by decide) fun a hF => ?_
    refine s_val hF (x_load rfl (m_load flat29 (m1.cell (j := 1) rfl))) (by decide) fun a hF => ?_
    refine s_val hF (x_fa0 fa36_1 rfl) (by decide) fun a hF => ?_
    refine s_val hF (x_load rfl (m_load flat29 (m1.cell (j := 1) rfl))) (by decide) fun a hF => ?_
    refine s_val hF (x_len Try.underlying83 rfl) (by decide) fun a hF => ?_
    refine s_val hF (x_subn (m - 1) (by omega) (by omega) rfl rfl) (by decide) fun a hF => ?_
    refine s_val hF (x_slice (vlo := none) (vhi := some (.int .i64 ((m - 1 : Nat) : Int))) (vmx := none) rfl rfl rfl rfl (m_sliceUK (m - 1) Try.underlying83 el29.size rfl (by omega))) (by decide) fun a hF => ?_
    refine s_val hF (x_fa0 fa36_1 rfl) (by decide) fun a hF => ?_
    refine s_put hF rfl rfl flat29 m1 (by simp) rfl fun w10 m1 o11 => ?_
    have so11 := o11.size
    have hB := hB.trans (o11.below (by omega))
    have m2 := m2.only o11 (by omega)
    refine s_end (hK' _ _ (by omega) ⟨by rw [show ks.length - (j + 1) = m - 1 by omega]; exact hst, by rw [show ks.length - (j + 1) = m - 1 by omega]; exact m1, m2, hB, hF.sub _ rfl⟩)
  · have hst : tidyK ks = ks.take m := by rw [htr]; exact trim_stop (by omega) (by omega)
    obtain ⟨b3, off3, c3, hve, hrow⟩ := rd_rowI (rd_take hV m (by omega)) (i := m - 1) (by rw [List.length_take]; omega)
    rw [List.length_take, Nat.min_eq_left (by omega)] at hve
    cases hve
    rw [gt_take, if_pos (by omega)] at hrow
    refine wp_rs fun K15 hK15 => ?_
    refine s_val hF (x_fa0 fa36_1 rfl) (by decide) fun a hF => ?_
    refine s_val hF (x_load rfl (m_load flat29 (m1.cell (j := 1) rfl))) (by decide) fun a hF => ?_
    refine s_val hF (x_len Try.underlying83 rfl) (by decide) fun a hF => ?_
    refine s_val hF (x_gtr (b := true) (decide_eq_true (by omega)) rfl rfl) (by decide) fun a hF => ?_
    refine s_val hF (x_move rfl) (by decide) fun a hF => ?_
    refine s_grd 9 hF rfl rfl rfl ?_
    refine s_val hF (x_fa0 fa36_1 rfl) (by decide) fun a hF => ?_
    refine s_grd 9 hF rfl rfl rfl ?_
    refine s_val hF (x_load rfl (m_load flat29 (m1.cell (j := 1) rfl))) (by decide) fun a hF => ?_
    refine s_grd 9 hF rfl rfl rfl ?_
    refine s_val hF (x_fa0 fa36_1 rfl) (by decide) fun a hF => ?_
    refine s_grd 9 hF rfl rfl rfl ?_
    refine s_val hF (x_load rfl (m_load flat29 (m1.cell (j := 1) rfl))) (by decide) fun a hF => ?_
    refine s_grd 9 hF rfl rfl rfl ?_
    refine s_val hF (x_len Try.underlying83 rfl) (by decide) fun a hF => ?_
    refine s_grd 9 hF rfl rfl rfl ?_
    refine s_val hF (x_subn (m - 1) (by omega) (by omega) rfl rfl) (by decide) fun a hF => ?_
    refine s_grd 9 hF rfl rfl rfl ?_
    refine s_val hF (x_ixa rfl rfl (m_ixs (m - 1) Try.underlying83 el29.size rfl (by omega))) (by decide) fun a hF => ?_
    refine s_grd 9 hF rfl rfl rfl ?_
    refine s_val hF (x_load rfl (m_load flat3 (hrow _ hB))) (by decide) fun a hF => ?_
    refine s_grd 9 hF rfl rfl rfl ?_
    refine s_val hF (x_lss (b := false) (decide_eq_false (by omega)) rfl rfl) (by decide) fun a hF => ?_
    refine s_val hF (x_pick (b := true) rfl rfl) (by decide) fun a hF => ?_
    refine s_end (hK15 _ _ ?_)
    refine wp_if hF rfl ?_
    refine wp_exit (hK2 _ _ ?_)
    refine wp_seq_k fun K16 hK16 => ?_
    refine wp_rs fun K17 hK17 => ?_
    refine s_val hF (x_fa0 fa36_1 rfl) (by decide) fun a hF => ?_
    refine s_val hF (x_load rfl (m_load flat29 (m1.cell (j := 1) rfl))) (by decide) fun a hF => ?_
    refine s_val hF (x_len Try.underlying83 rfl) (by decide) fun a hF => ?_
    refine s_val hF (x_move rfl) (by decide) fun a hF => ?_
    refine s_end (hK17 _ _ ?_)
    refine wp_block ?_
    refine wp_up m (fun i a w => Blk w b1 104 [.int .i64 (setl c ((ks.take m).take i)), .slice (some ⟨b3, off3, none⟩) m cv] ∧ Blk w b2 104 [.int .i64 0, .slice none 0 0] ∧ Below w0.heap.size w0 w ∧ Fs 42 a [(31, .int .i64 (i : Int)), (30, .int .i64 (m : Int)), (29, .slice (some ⟨b3, off3, none⟩) m cv), (1, .pointer (some ⟨b1, 0, none⟩)), (2, .pointer (some ⟨b2, 0, none⟩))]) ⟨by rw [show setl c ((ks.take m).take 0) = c by have := setl_is c []; have h2 : mxl [] = -1 := rfl; rw [List.take_zero]; omega]; exact m1, m2, hB, hF.sub _ rfl⟩ ?_
    clear hF hB m1 m2
    rintro i a w hi ⟨m1, m2, hB, hF⟩ K' hK'
    have sB := hB.size
    refine wp_rs fun K18 hK18 => ?_
    refine s_val hF (x_lss rfl rfl rfl) (by decide) fun a hF => ?_
    refine s_end (hK18 _ _ ?_)
    refine wp_seq_k fun K19 hK19 => ?_
    refine wp_iff hF rfl (fun hc32 => ?_) (fun hc32 => ?_)
    · obtain ⟨b4, off4, c4, hve, hrow2⟩ := rd_rowI (rd_take hV m (by omega)) (i := i) (by rw [List.length_take]; omega)
      rw [List.length_take, Nat.min_eq_left (by omega)] at hve
      cases hve
      have hss := setl_step (c := c) (K := ks.take m) (i := i) (by rw [List.length_take]; omega) hc
      refine wp_skip (hK19 _ _ ?_)
      refine wp_seq_k fun K20 hK20 => ?_
      refine wp_block ?_
      refine wp_rs fun K21 hK21 => ?_
      refine s_val hF (x_ixa rfl rfl (m_ixs i Try.underlying83 el29.size rfl (by omega))) (by decide) fun a hF => ?_
      refine s_val hF (x_load rfl (m_load flat3 (hrow2 _ hB))) (by decide) fun a hF => ?_
      refine s_val hF (x_assign rfl) (by decide) fun a hF => ?_
      refine s_end (hK21 _ _ ?_)
      refine wp_rs fun K22 hK22 => ?_
      refine s_val hF (x_move rfl) (by decide) fun a hF => ?_
      refine s_val hF (x_fa0 fa36_0 rfl) (by decide) fun a hF => ?_
      refine s_val hF (x_load rfl (m_load flat3 (m1.cell (j := 0) rfl))) (by decide) fun a hF => ?_
      refine s_val hF (x_geq rfl rfl rfl) (by decide) fun a hF => ?_
      refine s_end (hK22 _ _ ?_)
      refine wp_iff hF rfl (fun hc38 => ?_) (fun hc38 => ?_)
      · have hs2 := hss.1 hc38
        refine wp_region_lit ?_
        refine s_val hF (x_fa0 fa36_0 rfl) (by decide) fun a hF => ?_
        refine s_put hF rfl rfl flat3 m1 (by simp) rfl fun w12 m1 o13 => ?_
        have so13 := o13.size
        have hB := hB.trans (o13.below (by omega))
        have m2 := m2.only o13 (by omega)
        refine s_end (hK20 _ _ ?_)
        refine wp_region_lit ?_
        refine s_val hF (x_addn (i + 1) (by omega) (by omega) rfl rfl) (by decide) fun a hF => ?_
        refine s_val hF (x_move rfl) (by decide) fun a hF => ?_
        refine s_end (hK' _ _ (by omega) ⟨by rw [hs2]; exact m1, m2, hB, hF.sub _ rfl⟩)
      · have hs2 := hss.2 hc38
        refine wp_skip (hK20 _ _ ?_)
        refine wp_region_lit ?_
        refine s_val hF (x_addn (i + 1) (by omega) (by omega) rfl rfl) (by decide) fun a hF => ?_
        refine s_val hF (x_move rfl) (by decide) fun a hF => ?_
        refine s_end (hK' _ _ (by omega) ⟨by rw [hs2]; exact m1, m2, hB, hF.sub _ rfl⟩)
    · refine wp_exit (hK16 _ _ ?_)
      refine wp_rs fun K23 hK23 => ?_
      refine s_val hF (x_ldW wide36 m1 rfl rfl) (by decide) fun a hF => ?_
      refine s_putW hF rfl rfl (size_wide wide36) m2 rfl (one2 rfl) fun w14 m2 o15 => ?_
      have so15 := o15.size
      have hB := hB.trans (o15.below (by omega))
      have m1 := m1.only o15 (by omega)
      refine s_end (hK23 _ _ ?_)
      obtain rfl : i = m := by omega
      rw [show (ks.take i).take i = tidyK ks by rw [List.take_take, Nat.min_self]; exact hst.symm] at m2
      refine wp_ret (res_cell hF rfl rfl m2 wide36 ⟨_, rfl, ⟨_, rfl, by rw [hst]; exact (rd_take hV i (by omega)).below hB, by first | rfl | (cases av <;> rfl)⟩, hB⟩)

theorem x_imaxN {P : Program} {n : Nat} {l : List (Nat × Value)} {w : World} {x y : Operand} {ts : Array TypeId} {p q N : Nat} (h : N = max p q) (hx : ov l x = some (.int .i64 (p : Int))) (hy : ov l y = some (.int .i64 (q : Int))) : Runs P n l w (.call { callee := .builtin .max, args := #[x, y], argTypes := ts }) (.int .i64 (N : Int)) := by
  have := x_imax (P := P) (n := n) (w := w) (ts := ts) hx hy
  rwa [show max (p : Int) (q : Int) = (N : Int) by omega] at this

set_option maxRecDepth 100000 in
set_option maxHeartbeats 1600000 in
theorem both43 (c d : Int) (A B : List Int) (u v : Value) (w0 : World) (hc : 0 ≤ c) (hd : 0 ≤ d) (hA0 : A.length ≤ 100000) (hB0 : B.length ≤ 100000) (hLA : Lo A) (hLB : Lo B) (hU : Rd w0 u 1 A.length (ints A)) (hV : Rd w0 v 1 B.length (ints B)) : Calls Try.prog 97 #[.agg [.int .i64 c, u].toArray, .agg [.int .i64 d, v].toArray] w0 fun e w' => ∃ z, e = .returned z ∧ (∃ v', z = .agg [.int .i64 (setl (max c d) (tidyK (bothK A B))), v'].toArray ∧ Rd w' v' 1 (tidyK (bothK A B)).length (ints (tidyK (bothK A B))) ∧ ∀ j, v'.ownBlock = some j → w0.heap.size ≤ j) ∧ Below w0.heap.size w0 w' := by
  obtain ⟨au, cu, rfl, _⟩ := hU.form
  obtain ⟨av, cv, rfl, _⟩ := hV.form
  obtain ⟨N, hN⟩ : ∃ N, N = max A.length B.length := ⟨_, rfl⟩
  have hB := Below.refl w0.heap.size w0
  have sB := hB.size
  refine calls_fs 55 [(0, .agg [.int .i64 c, .slice au A.length cu].toArray), (1, .agg [.int .i64 d, .slice av B.length cv].toArray)] Try.func97 rfl rfl rfl rfl rfl fun a hF => ?_
  refine wp_rs fun K1 hK1 => ?_
  refine s_box ([.int .i64 c, .slice au A.length cu]) hF (by decide) rfl rfl fun w2 b2 a eb2 m2 B3 zb2 hF => ?_
  have sB3 := B3.size
  have hB := hB.trans (B3.mono hB.size)
  refine s_box ([.int .i64 d, .slice av B.length cv]) hF (by decide) rfl rfl fun w4 b3 a eb3 m3 B5 zb3 hF => ?_
  have sB5 := B5.size
  have hB := hB.trans (B5.mono hB.size)
  have m2 := m2.old B5
  refine s_alloc hF (by decide) zero36 fun w6 b4 a eb4 m4 B7 zb4 hF => ?_
  have sB7 := B7.size
  have hB := hB.trans (B7.mono hB.size)
  have m2 := m2.old B7
  have m3 := m3.old B7
  refine s_end (hK1 _ _ ?_)
  refine wp_rs fun K2 hK2 => ?_
  refine s_val hF (x_fa0 fa36_0 rfl) (by decide) fun a hF => ?_
  refine s_val hF (x_load rfl (m_load flat3 (m2.cell (j := 0) rfl))) (by decide) fun a hF => ?_
  refine s_val hF (x_fa0 fa36_0 rfl) (by decide) fun a hF => ?_
  refine s_val hF (x_load rfl (m_load flat3 (m3.cell (j := 0) rfl))) (by decide) fun a hF => ?_
  refine s_val hF (x_imax rfl rfl) (by decide) fun a hF => ?_
  refine s_val hF (x_build (vs := [(0, _)]) rfl (b36_0 _ _)) (by decide) fun a hF => ?_
  refine s_alloc hF (by decide) zero36 fun w8 b5 a eb5 m5 B9 zb5 hF => ?_
  have sB9 := B9.size
  have hB := hB.trans (B9.mono hB.size)
  have m2 := m2.old B9
  have m3 := m3.old B9
  have m4 := m4.old B9
  refine s_putW hF rfl rfl (size_wide wide36) m5 rfl (one2 rfl) fun w10 m5 o11 => ?_
  have so11 := o11.size
  have hB := hB.trans (o11.below (by omega))
  have m2 := m2.only o11 (by omega)
  have m3 := m3.only o11 (by omega)
  have m4 := m4.only o11 (by omega)
  refine s_end (hK2 _ _ ?_)
  refine wp_seq_k fun K3 hK3 => ?_
  obtain ⟨bz, hbz⟩ : ∃ b, b = b5 := ⟨_, rfl⟩
  have hbb : w0.heap.size ≤ b2 ∧ b2 < b3 ∧ b3 < b4 ∧ b4 < b5 := ⟨by omega, by omega, by omega, by omega⟩
  refine wp_rs fun K4 hK4 => ?_
  refine s_val hF (x_fa0 fa36_1 rfl) (by decide) fun a hF => ?_
  refine s_val hF (x_load rfl (m_load flat29 (m2.cell (j := 1) rfl))) (by decide) fun a hF => ?_
  refine s_val hF (x_len Try.underlying83 rfl) (by decide) fun a hF => ?_
  refine s_val hF (x_fa0 fa36_1 rfl) (by decide) fun a hF => ?_
  refine s_val hF (x_load rfl (m_load flat29 (m3.cell (j := 1) rfl))) (by decide) fun a hF => ?_
  refine s_val hF (x_len Try.underlying83 rfl) (by decide) fun a hF => ?_
  refine s_val hF (x_imaxN hN rfl rfl) (by decide) fun a hF => ?_
  refine s_val hF (x_move rfl) (by decide) fun a hF => ?_
  refine s_end (hK4 _ _ ?_)
  refine wp_block ?_
  refine wp_up N (fun i a w => ∃ v' o', FA 104 w0.heap.size w b5 o' v' (max c d) ((List.range i).map fun i => max (gt A i) (gt B i)) ∧ (o' = b5 ∨ bz < o') ∧ Blk w b2 104 [.int .i64 c, .slice au A.length cu] ∧ Blk w b3 104 [.int .i64 d, .slice av B.length cv] ∧ Blk w b4 104 [.int .i64 0, .slice none 0 0] ∧ Below w0.heap.size w0 w ∧ Fs 55 a [(21, .int .i64 (i : Int)), (20, .int .i64 (N : Int)), (2, .pointer (some ⟨b2, 0, none⟩)), (3, .pointer (some ⟨b3, 0, none⟩)), (4, .pointer (some ⟨b4, 0, none⟩)), (5, .pointer (some ⟨b5, 0, none⟩))]) ⟨_, b5, FA.start m5 (by omega), .inl rfl, m2, m3, m4, hB, hF.sub _ rfl⟩ ?_
  clear hF hB m2 m3 m4 m5
  rintro i a w hi ⟨vv, o2, hA, ho2, m2, m3, m4, hB, hF⟩ K' hK'
  have sB := hB.size
  obtain ⟨L, hL⟩ : ∃ L, L = (List.range i).map fun i => max (gt A i) (gt B i) := ⟨_, rfl⟩
  rw [← hL] at hA
  have hLl : L.length = i := by rw [hL]; simp
  have mg := hA.blk
  have hO := hA.own
  have hat := hA.at'
  have hne := hA.ne
  have hlo := hA.lo
  have hgl := mg.lt
  obtain ⟨ag, cg, rfl, hcg⟩ := hA.form
  refine wp_rs fun K5 hK5 => ?_
  refine s_val hF (x_lss (b := decide (i < N)) (decide_eq_decide.2 (by omega)) rfl rfl) (by decide) fun a hF => ?_
  refine s_end (hK5 _ _ ?_)
  refine wp_seq_k fun K6 hK6 => ?_
  refine wp_iff hF rfl (fun hc22 => ?_) (fun hc22 => ?_)
  · refine wp_skip (hK6 _ _ ?_)
    refine wp_seq_k fun K7 hK7 => ?_
    refine wp_block ?_
    refine wp_rs fun K8 hK8 => ?_
    refine s_val hF (x_move rfl) (by decide) fun a hF => ?_
    refine s_val hF (x_assign rfl) (by decide) fun a hF => ?_
    refine s_end (hK8 _ _ ?_)
    refine wp_rs fun K9 hK9 => ?_
    refine s_val hF (x_assign rfl) (by decide) fun a hF => ?_
    refine s_end (hK9 _ _ ?_)
    refine wp_seq_k fun K10 hK10 => ?_
    refine wp_rs fun K11 hK11 => ?_
    refine s_val hF (x_move rfl) (by decide) fun a hF => ?_
    refine s_val hF (x_fa0 fa36_1 rfl) (by decide) fun a hF => ?_
    refine s_val hF (x_load rfl (m_load flat29 (m2.cell (j := 1) rfl))) (by decide) fun a hF => ?_
    refine s_val hF (x_len Try.underlying83 rfl) (by decide) fun a hF => ?_
    refine s_val hF (x_lss (b := decide (i < A.length)) (decide_eq_decide.2 (by omega)) rfl rfl) (by decide) fun a hF => ?_
    refine s_end (hK11 _ _ ?_)
    refine wp_iff hF rfl (fun hc28 => ?_) (fun hc28 => ?_)
    · have hLAi := hLA.gt i
      obtain ⟨b6, off6, c6, hve, hrow1⟩ := rd_rowI hU (i := i) (by omega)
      cases hve
      refine wp_region_lit ?_
      refine s_val hF (x_fa0 fa36_1 rfl) (by decide) fun a hF => ?_
      refine s_val hF (x_load rfl (m_load flat29 (m2.cell (j := 1) rfl))) (by decide) fun a hF => ?_
      refine s_val hF (x_move rfl) (by decide) fun a hF => ?_
      refine s_val hF (x_ixa rfl rfl (m_ixs i Try.underlying83 el29.size rfl (by omega))) (by decide) fun a hF => ?_
      refine s_val hF (x_load rfl (m_load flat3 (hrow1 _ hB))) (by decide) fun a hF => ?_
      refine s_val hF (x_assign rfl) (by decide) fun a hF => ?_
      refine s_end (hK10 _ _ ?_)
      refine wp_seq_k fun K12 hK12 => ?_
      refine wp_rs fun K13 hK13 => ?_
      refine s_val hF (x_move rfl) (by decide) fun a hF => ?_
      refine s_val hF (x_fa0 fa36_1 rfl) (by decide) fun a hF => ?_
      refine s_val hF (x_load rfl (m_load flat29 (m3.cell (j := 1) rfl))) (by decide) fun a hF => ?_
      refine s_val hF (x_len Try.underlying83 rfl) (by decide) fun a hF => ?_
      refine s_val hF (x_lss (b := decide (i < B.length)) (decide_eq_decide.2 (by omega)) rfl rfl) (by decide) fun a hF => ?_
      refine s_end (hK13 _ _ ?_)
      refine wp_iff hF rfl (fun hc38 => ?_) (fun hc38 => ?_)
      · obtain ⟨b7, off7, c7, hve, hrow2⟩ := rd_rowI hV (i := i) (by omega)
        cases hve
        refine wp_region_lit ?_
        refine s_val hF (x_move rfl) (by decide) fun a hF => ?_
        refine s_val hF (x_fa0 fa36_1 rfl) (by decide) fun a hF => ?_
        refine s_val hF (x_load rfl (m_load flat29 (m3.cell (j := 1) rfl))) (by decide) fun a hF => ?_
        refine s_val hF (x_move rfl) (by decide) fun a hF => ?_
        refine s_val hF (x_ixa rfl rfl (m_ixs i Try.underlying83 el29.size rfl (by omega))) (by decide) fun a hF => ?_
        refine s_val hF (x_load rfl (m_load flat3 (hrow2 _ hB))) (by decide) fun a hF => ?_
        refine s_val hF (x_imax rfl rfl) (by decide) fun a hF => ?_
        refine s_val hF (x_assign rfl) (by decide) fun a hF => ?_
        refine s_end (hK12 _ _ ?_)
        refine wp_region_lit ?_
        refine s_val hF (x_fa0 fa36_1 rfl) (by decide) fun a hF => ?_
        refine s_val hF (x_load rfl (m_load flat29 (mg.cell (j := 1) rfl))) (by decide) fun a hF => ?_
        refine s_val hF (x_move (v := .int .i64 (max (gt A i) (gt B i))) rfl) (by decide) fun a hF => ?_
        refine s_litG [.int .i64 (max (gt A i) (gt B i))] el29 hF (by decide) rfl (by simp [Value.cells]) rfl (by decide) (by decide) fun w12 bl a ebl ml B13 zbl hF => ?_
        have sB13 := B13.size
        have hB := hB.trans (B13.mono hB.size)
        have m2 := m2.old B13
        have m3 := m3.old B13
        have m4 := m4.old B13
        have mg := mg.old B13
        have hO := own_below hO B13
        have ml : Blk w12 bl 3 [.int .i64 (max (gt A i) (gt B i))] := by simpa [Value.cells] using ml
        refine s_app1 (o := o2) el29 hF (by decide) rfl rfl hO ml rfl (by simp [Value.oneCell']) hat (by omega) (by omega) (by decide) (by omega) fun v3 w14 a o3 hOn hOatn how hsrc k15 hkeep hF => ?_
        have sk15 := k15.size
        have hB := k15.under hB (by omega)
        have m2 := m2.k2 k15 (by omega)
        have m3 := m3.k2 k15 (by omega)
        have m4 := m4.k2 k15 (by omega)
        have mg := (hkeep _ mg.lt hne).trans mg
        have ml := ml.k2 k15 (by omega)
        have hO := hOn
        have hO_at := hOatn
        have hneg : v3.ownBlock ≠ some b5 := fun h => by rcases hsrc b5 h with h | h; exact hne h; omega
        refine s_val hF (x_fa0 fa36_1 rfl) (by decide) fun a hF => ?_
        refine s_put hF rfl rfl flat29 mg (by simp) (Rd.own hO).one fun w16 mg o17 => ?_
        have so17 := o17.size
        have hB := hB.trans (o17.below (by omega))
        have m2 := m2.only o17 (by omega)
        have m3 := m3.only o17 (by omega)
        have m4 := m4.only o17 (by omega)
        have hO := own_only hO o17 (hneg)
        have ml := ml.only o17 (by omega)
        refine s_end (hK7 _ _ ?_)
        refine wp_region_lit ?_
        refine s_val hF (x_addn (i + 1) (by omega) (by omega) rfl rfl) (by decide) fun a hF => ?_
        refine s_val hF (x_move rfl) (by decide) fun a hF => ?_
        have hL2 : ((List.range (i + 1)).map fun i => max (gt A i) (gt B i)) = L ++ [max (gt A i) (gt B i)] := by rw [hL, List.range_succ, List.map_append]; rfl
        refine s_end (hK' _ _ (by omega) ⟨v3, o3, ⟨mg, by rw [hL2, ints_app]; simpa using hO, hO_at, hneg, by omega⟩, by omega, m2, m3, m4, hB, hF.sub _ rfl⟩)
      · skip
        refine wp_skip (hK12 _ _ ?_)
        refine wp_region_lit ?_
        refine s_val hF (x_fa0 fa36_1 rfl) (by decide) fun a hF => ?_
        refine s_val hF (x_load rfl (m_load flat29 (mg.cell (j := 1) rfl))) (by decide) fun a hF => ?_
        refine s_val hF (x_move (v := .int .i64 (max (gt A i) (gt B i))) (by rw [show max (gt A i) (gt B i) = gt A i by rw [gt_ge (L := B) (by omega)]; omega]; rfl)) (by decide) fun a hF => ?_
        refine s_litG [.int .i64 (max (gt A i) (gt B i))] el29 hF (by decide) rfl (by simp [Value.cells]) rfl (by decide) (by decide) fun w18 bl a ebl ml B19 zbl hF => ?_
        have sB19 := B19.size
        have hB := hB.trans (B19.mono hB.size)
        have m2 := m2.old B19
        have m3 := m3.old B19
        have m4 := m4.old B19
        have mg := mg.old B19
        have hO := own_below hO B19
        have ml : Blk w18 bl 3 [.int .i64 (max (gt A i) (gt B i))] := by simpa [Value.cells] using ml
        refine s_app1 (o := o2) el29 hF (by decide) rfl rfl hO ml rfl (by simp [Value.oneCell']) hat (by omega) (by omega) (by decide) (by omega) fun v3 w20 a o3 hOn hOatn how hsrc k21 hkeep hF => ?_
        have sk21 := k21.size
        have hB := k21.under hB (by omega)
        have m2 := m2.k2 k21 (by omega)
        have m3 := m3.k2 k21 (by omega)
        have m4 := m4.k2 k21 (by omega)
        have mg := (hkeep _ mg.lt hne).trans mg
        have ml := ml.k2 k21 (by omega)
        have hO := hOn
        have hO_at := hOatn
        have hneg : v3.ownBlock ≠ some b5 := fun h => by rcases hsrc b5 h with h | h; exact hne h; omega
        refine s_val hF (x_fa0 fa36_1 rfl) (by decide) fun a hF => ?_
        refine s_put hF rfl rfl flat29 mg (by simp) (Rd.own hO).one fun w22 mg o23 => ?_
        have so23 := o23.size
        have hB := hB.trans (o23.below (by omega))
        have m2 := m2.only o23 (by omega)
        have m3 := m3.only o23 (by omega)
        have m4 := m4.only o23 (by omega)
        have hO := own_only hO o23 (hneg)
        have ml := ml.only o23 (by omega)
        refine s_end (hK7 _ _ ?_)
        refine wp_region_lit ?_
        refine s_val hF (x_addn (i + 1) (by omega) (by omega) rfl rfl) (by decide) fun a hF => ?_
        refine s_val hF (x_move rfl) (by decide) fun a hF => ?_
        have hL2 : ((List.range (i + 1)).map fun i => max (gt A i) (gt B i)) = L ++ [max (gt A i) (gt B i)] := by rw [hL, List.range_succ, List.map_append]; rfl
        refine s_end (hK' _ _ (by omega) ⟨v3, o3, ⟨mg, by rw [hL2, ints_app]; simpa using hO, hO_at, hneg, by omega⟩, by omega, m2, m3, m4, hB, hF.sub _ rfl⟩)
    · skip
      refine wp_skip (hK10 _ _ ?_)
      refine wp_seq_k fun K14 hK14 => ?_
      refine wp_rs fun K15 hK15 => ?_
      refine s_val hF (x_move rfl) (by decide) fun a hF => ?_
      refine s_val hF (x_fa0 fa36_1 rfl) (by decide) fun a hF => ?_
      refine s_val hF (x_load rfl (m_load flat29 (m3.cell (j := 1) rfl))) (by decide) fun a hF => ?_
      refine s_val hF (x_len Try.underlying83 rfl) (by decide) fun a hF => ?_
      refine s_val hF (x_lss (b := decide (i < B.length)) (decide_eq_decide.2 (by omega)) rfl rfl) (by decide) fun a hF => ?_
      refine s_end (hK15 _ _ ?_)
      refine wp_iff hF rfl (fun hc38 => ?_) (fun hc38 => ?_)
      · obtain ⟨b7, off7, c7, hve, hrow2⟩ := rd_rowI hV (i := i) (by omega)
        cases hve
        refine wp_region_lit ?_
        refine s_val hF (x_move rfl) (by decide) fun a hF => ?_
        refine s_val hF (x_fa0 fa36_1 rfl) (by decide) fun a hF => ?_
        refine s_val hF (x_load rfl (m_load flat29 (m3.cell (j := 1) rfl))) (by decide) fun a hF => ?_
        refine s_val hF (x_move rfl) (by decide) fun a hF => ?_
        refine s_val hF (x_ixa rfl rfl (m_ixs i Try.underlying83 el29.size rfl (by omega))) (by decide) fun a hF => ?_
        refine s_val hF (x_load rfl (m_load flat3 (hrow2 _ hB))) (by decide) fun a hF => ?_
        refine s_val hF (x_imax rfl rfl) (by decide) fun a hF => ?_
        refine s_val hF (x_assign rfl) (by decide) fun a hF => ?_
        refine s_end (hK14 _ _ ?_)
        refine wp_region_lit ?_
        refine s_val hF (x_fa0 fa36_1 rfl) (by decide) fun a hF => ?_
        refine s_val hF (x_load rfl (m_load flat29 (mg.cell (j := 1) rfl))) (by decide) fun a hF => ?_
        refine s_val hF (x_move (v := .int .i64 (max (gt A i) (gt B i))) (by rw [show max (gt A i) (gt B i) = max (-1) (gt B i) by rw [gt_ge (L := A) (by omega)]]; rfl)) (by decide) fun a hF => ?_
        refine s_litG [.int .i64 (max (gt A i) (gt B i))] el29 hF (by decide) rfl (by simp [Value.cells]) rfl (by decide) (by decide) fun w24 bl a ebl ml B25 zbl hF => ?_
        have sB25 := B25.size
        have hB := hB.trans (B25.mono hB.size)
        have m2 := m2.old B25
        have m3 := m3.old B25
        have m4 := m4.old B25
        have mg := mg.old B25
        have hO := own_below hO B25
        have ml : Blk w24 bl 3 [.int .i64 (max (gt A i) (gt B i))] := by simpa [Value.cells] using ml
        refine s_app1 (o := o2) el29 hF (by decide) rfl rfl hO ml rfl (by simp [Value.oneCell']) hat (by omega) (by omega) (by decide) (by omega) fun v3 w26 a o3 hOn hOatn how hsrc k27 hkeep hF => ?_
        have sk27 := k27.size
        have hB := k27.under hB (by omega)
        have m2 := m2.k2 k27 (by omega)
        have m3 := m3.k2 k27 (by omega)
        have m4 := m4.k2 k27 (by omega)
        have mg := (hkeep _ mg.lt hne).trans mg
        have ml := ml.k2 k27 (by omega)
        have hO := hOn
        have hO_at := hOatn
        have hneg : v3.ownBlock ≠ some b5 := fun h => by rcases hsrc b5 h with h | h; exact hne h; omega
        refine s_val hF (x_fa0 fa36_1 rfl) (by decide) fun a hF => ?_
        refine s_put hF rfl rfl flat29 mg (by simp) (Rd.own hO).one fun w28 mg o29 => ?_
        have so29 := o29.size
        have hB := hB.trans (o29.below (by omega))
        have m2 := m2.only o29 (by omega)
        have m3 := m3.only o29 (by omega)
        have m4 := m4.only o29 (by omega)
        have hO := own_only hO o29 (hneg)
        have ml := ml.only o29 (by omega)
        refine s_end (hK7 _ _ ?_)
        refine wp_region_lit ?_
        refine s_val hF (x_addn (i + 1) (by omega) (by omega) rfl rfl) (by decide) fun a hF => ?_
        refine s_val hF (x_move rfl) (by decide) fun a hF => ?_
        have hL2 : ((List.range (i + 1)).map fun i => max (gt A i) (gt B i)) = L ++ [max (gt A i) (gt B i)] := by rw [hL, List.range_succ, List.map_append]; rfl
        refine s_end (hK' _ _ (by omega) ⟨v3, o3, ⟨mg, by rw [hL2, ints_app]; simpa using hO, hO_at, hneg, by omega⟩, by omega, m2, m3, m4, hB, hF.sub _ rfl⟩)
      · omega
  · have hiN : i = N := by omega
    have hfin : L = bothK A B := by rw [hL, hiN, hN, bothK]
    refine wp_exit (hK3 _ _ ?_)
    refine wp_rs fun K16 hK16 => ?_
    refine s_val hF (x_ldW wide36 mg rfl rfl) (by decide) fun a hF => ?_
    refine s_callR (R := fun u w' => ∃ v', u = .agg [.int .i64 (setl (max c d) (tidyK L)), v'].toArray ∧ Rd w' v' 1 (tidyK L).length (ints (tidyK L)) ∧ v'.ownBlock = (Value.slice ag L.length cg).ownBlock) [_] hF (enters_of Try.func133 (by kernel_rfl) rfl) rfl (by decide) (tidy61 (max c d) L _ w (by omega) (by omega) (Rd.own hO)) ?_
    rintro _ w30 a ⟨v5, rfl, hv5, hob⟩ B31 hF
    have sB31 := B31.size
    have hB := hB.trans (B31.mono hB.size)
    have m2 := m2.old B31
    have m3 := m3.old B31
    have m4 := m4.old B31
    have mg := mg.old B31
    have hO := own_below hO B31
    have h1v := hv5.one
    refine s_putW hF rfl rfl (size_wide wide36) m4 rfl (one2 h1v) fun w32 m4 o33 => ?_
    have so33 := o33.size
    have hB := hB.trans (o33.below (by omega))
    have m2 := m2.only o33 (by omega)
    have m3 := m3.only o33 (by omega)
    have mg := mg.only o33 (by omega)
    have hO := own_only hO o33 (fun e => by have := hat _ e; omega)
    have hv5 := rd_only hv5 o33 (fun h => by have := hat _ (hob.symm.trans h); omega)
    refine s_end (hK16 _ _ ?_)
    rw [hfin] at m4 hv5
    refine wp_ret (res_cell hF rfl rfl m4 wide36 ⟨_, rfl, ⟨v5, rfl, hv5, fun j h => (hO.lt j (hob.symm.trans h)).1⟩, hB⟩)

set_option maxRecDepth 100000 in
set_option maxHeartbeats 1600000 in
theorem plus42 (c : Int) (A : List Int) (u : Value) (m : Int) (w0 : World) (hc : 0 ≤ c) (hc1 : c ≤ 1099511627776) (hm : 0 ≤ m) (hm1 : m ≤ 1099511627776) (hA0 : A.length ≤ 100000) (hLA : Lo A) (hHA : ∀ j, gt A j ≤ 1099511627776) (hU : Rd w0 u 1 A.length (ints A)) : Calls Try.prog 98 #[.agg [.int .i64 c, u].toArray, .int .i64 m] w0 fun e w' => ∃ z, e = .returned z ∧ (∃ v', z = .agg [.int .i64 (setl (plusC c A m) (tidyK (plusK A m))), v'].toArray ∧ Rd w' v' 1 (tidyK (plusK A m)).length (ints (tidyK (plusK A m))) ∧ ∀ j, v'.ownBlock = some j → w0.heap.size ≤ j) ∧ Below w0.heap.size w0 w' := by
  obtain ⟨au, cu, rfl, _⟩ := hU.form
  have hB := Below.refl w0.heap.size w0
  have sB := hB.size
  refine calls_fs 48 [(0, .agg [.int .i64 c, .slice au A.length cu].toArray), (1, .int .i64 m)] Try.func98 rfl rfl rfl rfl rfl fun a hF => ?_
  refine wp_rs fun K1 hK1 => ?_
  refine s_box ([.int .i64 c, .slice au A.length cu]) hF (by decide) rfl rfl fun w2 b2 a eb2 m2 B3 zb2 hF => ?_
  have sB3 := B3.size
  have hB := hB.trans (B3.mono hB.size)
  refine s_alloc hF (by decide) zero36 fun w4 b4 a eb4 m4 B5 zb4 hF => ?_
  have sB5 := B5.size
  have hB := hB.trans (B5.mono hB.size)
  have m2 := m2.old B5
  refine s_end (hK1 _ _ ?_)
  refine wp_rs fun K2 hK2 => ?_
  refine s_alloc hF (by decide) zero36 fun w6 b5 a eb5 m5 B7 zb5 hF => ?_
  have sB7 := B7.size
  have hB := hB.trans (B7.mono hB.size)
  have m2 := m2.old B7
  have m4 := m4.old B7
  refine s_end (hK2 _ _ ?_)
  refine wp_rs fun K3 hK3 => ?_
  refine s_val hF (x_fa0 fa36_0 rfl) (by decide) fun a hF => ?_
  refine s_val hF (x_load rfl (m_load flat3 (m2.cell (j := 0) rfl))) (by decide) fun a hF => ?_
  refine s_val hF (x_fa0 fa36_0 rfl) (by decide) fun a hF => ?_
  refine s_put hF rfl rfl flat3 m5 (by simp) rfl fun w8 m5 o9 => ?_
  have so9 := o9.size
  have hB := hB.trans (o9.below (by omega))
  have m2 := m2.only o9 (by omega)
  have m4 := m4.only o9 (by omega)
  refine s_end (hK3 _ _ ?_)
  refine wp_seq_k fun K4 hK4 => ?_
  rcases (show A.length = 0 ∨ (A.length ≠ 0 ∧ 0 < c) ∨ (A.length ≠ 0 ∧ c ≤ 0) by omega) with hq | hq | hq
  · have hpc : plusC c A m = min (c + m) 1099511627776 := by rw [plusC, if_pos (.inl (List.eq_nil_of_length_eq_zero hq))]; rfl
    refine wp_rs fun K6 hK6 => ?_
    refine s_val hF (x_fa0 fa36_1 rfl) (by decide) fun a hF => ?_
    refine s_val hF (x_load rfl (m_load flat29 (m2.cell (j := 1) rfl))) (by decide) fun a hF => ?_
    refine s_val hF (x_len Try.underlying83 rfl) (by decide) fun a hF => ?_
    refine s_val hF (x_eql (b := true) (decide_eq_true (by omega)) rfl rfl) (by decide) fun a hF => ?_
    refine s_val hF (x_move rfl) (by decide) fun a hF => ?_
    refine s_grdn 15 hF rfl rfl (by decide) fun a hF => ?_
    refine s_grdn 15 hF rfl rfl (by decide) fun a hF => ?_
    refine s_grdn 15 hF rfl rfl (by decide) fun a hF => ?_
    refine s_val hF (x_pick (b := true) rfl rfl) (by decide) fun a hF => ?_
    refine s_end (hK6 _ _ ?_)
    refine wp_if hF rfl ?_
    refine wp_region_lit ?_
    refine s_val hF (x_fa0 fa36_0 rfl) (by decide) fun a hF => ?_
    refine s_val hF (x_load rfl (m_load flat3 (m2.cell (j := 0) rfl))) (by decide) fun a hF => ?_
    refine s_val hF (x_move rfl) (by decide) fun a hF => ?_
    refine s_val hF (x_add (by omega) (by omega) rfl rfl) (by decide) fun a hF => ?_
    refine s_val hF (x_imin rfl rfl) (by decide) fun a hF => ?_
    refine s_val hF (x_fa0 fa36_0 rfl) (by decide) fun a hF => ?_
    refine s_put hF rfl rfl flat3 m5 (by simp) rfl fun w10 m5 o11 => ?_
    have so11 := o11.size
    have hB := hB.trans (o11.below (by omega))
    have m2 := m2.only o11 (by omega)
    have m4 := m4.only o11 (by omega)
    refine s_end (hK4 _ _ ?_)
    refine wp_seq_k fun K7 hK7 => ?_
    obtain ⟨bz, hbz⟩ : ∃ b, b = b5 := ⟨_, rfl⟩
    have hbb : w0.heap.size ≤ b4 ∧ b4 < b5 := ⟨by omega, by omega⟩
    refine wp_rs fun K8 hK8 => ?_
    refine s_val hF (x_fa0 fa36_1 rfl) (by decide) fun a hF => ?_
    refine s_val hF (x_load rfl (m_load flat29 (m2.cell (j := 1) rfl))) (by decide) fun a hF => ?_
    refine s_val hF (x_len Try.underlying83 rfl) (by decide) fun a hF => ?_
    refine s_val hF (x_move rfl) (by decide) fun a hF => ?_
    refine s_end (hK8 _ _ ?_)
    refine wp_block ?_
    refine wp_up A.length (fun i a w => ∃ v' o', FA 104 w0.heap.size w b5 o' v' (plusC c A m) (plusK (A.take i) m) ∧ (o' = b5 ∨ bz < o') ∧ Blk w b4 104 [.int .i64 0, .slice none 0 0] ∧ Below w0.heap.size w0 w ∧ Fs 48 a [(29, .int .i64 (i : Int)), (28, .int .i64 (A.length : Int)), (27, .slice au A.length cu), (1, .int .i64 m), (4, .pointer (some ⟨b4, 0, none⟩)), (5, .pointer (some ⟨b5, 0, none⟩))]) ⟨_, b5, FA.start (by rw [hpc]; exact m5) (by omega), .inl rfl, m4, hB, hF.sub _ rfl⟩ ?_
    clear hF hB m4 m5
    rintro i a w hi ⟨vv, o2, hA, ho2, m4, hB, hF⟩ K' hK'
    have sB := hB.size
    obtain ⟨L, hL⟩ : ∃ L, L = plusK (A.take i) m := ⟨_, rfl⟩
    rw [← hL] at hA
    have hLl : L.length = i := by rw [hL]; simp [plusK]; omega
    have mg := hA.blk
    have hO := hA.own
    have hat := hA.at'
    have hne := hA.ne
    have hlo := hA.lo
    have hgl := mg.lt
    obtain ⟨ag, cg, rfl, hcg⟩ := hA.form
    refine wp_rs fun K9 hK9 => ?_
    refine s_val hF (x_lss rfl rfl rfl) (by decide) fun a hF => ?_
    refine s_end (hK9 _ _ ?_)
    refine wp_seq_k fun K10 hK10 => ?_
    refine wp_iff hF rfl (fun hc30 => ?_) (fun hc30 => ?_)
    · have hLAi := hLA.gt i
      have hHAi := hHA i
      obtain ⟨b6, off6, c6, hve, hrow1⟩ := rd_rowI hU (i := i) (by omega)
      cases hve
      refine wp_skip (hK10 _ _ ?_)
      refine wp_seq_k fun K11 hK11 => ?_
      refine wp_block ?_
      refine wp_rs fun K12 hK12 => ?_
      refine s_val hF (x_ixa rfl rfl (m_ixs i Try.underlying83 el29.size rfl (by omega))) (by decide) fun a hF => ?_
      refine s_val hF (x_load rfl (m_load flat3 (hrow1 _ hB))) (by decide) fun a hF => ?_
      refine s_val hF (x_assign rfl) (by decide) fun a hF => ?_
      refine s_end (hK12 _ _ ?_)
      refine wp_seq_k fun K13 hK13 => ?_
      refine wp_rs fun K14 hK14 => ?_
      refine s_val hF (x_move rfl) (by decide) fun a hF => ?_
      refine s_val hF (x_geq rfl rfl rfl) (by decide) fun a hF => ?_
      refine s_end (hK14 _ _ ?_)
      refine wp_iff hF rfl (fun hc34 => ?_) (fun hc34 => ?_)
      · skip
        refine wp_region_lit ?_
        refine s_val hF (x_move rfl) (by decide) fun a hF => ?_
        refine s_val hF (x_move rfl) (by decide) fun a hF => ?_
        refine s_val hF (x_add (by omega) (by omega) rfl rfl) (by decide) fun a hF => ?_
        refine s_val hF (x_imin rfl rfl) (by decide) fun a hF => ?_
        refine s_val hF (x_assign rfl) (by decide) fun a hF => ?_
        refine s_end (hK13 _ _ ?_)
        refine wp_region_lit ?_
        refine s_val hF (x_fa0 fa36_1 rfl) (by decide) fun a hF => ?_
        refine s_val hF (x_load rfl (m_load flat29 (mg.cell (j := 1) rfl))) (by decide) fun a hF => ?_
        refine s_val hF (x_move (v := .int .i64 (if 0 ≤ gt A i then cut (gt A i + m) else gt A i)) (by rw [if_pos hc34]; rfl)) (by decide) fun a hF => ?_
        refine s_litG [.int .i64 ((if 0 ≤ gt A i then cut (gt A i + m) else gt A i))] el29 hF (by decide) rfl (by simp [Value.cells]) rfl (by decide) (by decide) fun w12 bl a ebl ml B13 zbl hF => ?_
        have sB13 := B13.size
        have hB := hB.trans (B13.mono hB.size)
        have m4 := m4.old B13
        have mg := mg.old B13
        have hO := own_below hO B13
        have ml : Blk w12 bl 3 [.int .i64 ((if 0 ≤ gt A i then cut (gt A i + m) else gt A i))] := by simpa [Value.cells] using ml
        refine s_app1 (o := o2) el29 hF (by decide) rfl rfl hO ml rfl (by simp [Value.oneCell']) hat (by omega) (by omega) (by decide) (by omega) fun v3 w14 a o3 hOn hOatn how hsrc k15 hkeep hF => ?_
        have sk15 := k15.size
        have hB := k15.under hB (by omega)
        have m4 := m4.k2 k15 (by omega)
        have mg := (hkeep _ mg.lt hne).trans mg
        have ml := ml.k2 k15 (by omega)
        have hO := hOn
        have hO_at := hOatn
        have hneg : v3.ownBlock ≠ some b5 := fun h => by rcases hsrc b5 h with h | h; exact hne h; omega
        refine s_val hF (x_fa0 fa36_1 rfl) (by decide) fun a hF => ?_
        refine s_put hF rfl rfl flat29 mg (by simp) (Rd.own hO).one fun w16 mg o17 => ?_
        have so17 := o17.size
        have hB := hB.trans (o17.below (by omega))
        have m4 := m4.only o17 (by omega)
        have hO := own_only hO o17 (hneg)
        have ml := ml.only o17 (by omega)
        refine s_end (hK11 _ _ ?_)
        refine wp_region_lit ?_
        refine s_val hF (x_addn (i + 1) (by omega) (by omega) rfl rfl) (by decide) fun a hF => ?_
        refine s_val hF (x_move rfl) (by decide) fun a hF => ?_
        have hL2 : plusK (A.take (i + 1)) m = L ++ [(if 0 ≤ gt A i then cut (gt A i + m) else gt A i)] := by rw [hL, List.take_add_one, List.getElem?_eq_getElem (by omega), gt_lt (by omega)]; simp only [plusK, List.map_append]; rfl
        refine s_end (hK' _ _ (by omega) ⟨v3, o3, ⟨mg, by rw [hL2, ints_app]; simpa using hO, hO_at, hneg, by omega⟩, by omega, m4, hB, hF.sub _ rfl⟩)
      · skip
        refine wp_skip (hK13 _ _ ?_)
        refine wp_region_lit ?_
        refine s_val hF (x_fa0 fa36_1 rfl) (by decide) fun a hF => ?_
        refine s_val hF (x_load rfl (m_load flat29 (mg.cell (j := 1) rfl))) (by decide) fun a hF => ?_
        refine s_val hF (x_move (v := .int .i64 (if 0 ≤ gt A i then cut (gt A i + m) else gt A i)) (by rw [if_neg hc34]; rfl)) (by decide) fun a hF => ?_
        refine s_litG [.int .i64 ((if 0 ≤ gt A i then cut (gt A i + m) else gt A i))] el29 hF (by decide) rfl (by simp [Value.cells]) rfl (by decide) (by decide) fun w18 bl a ebl ml B19 zbl hF => ?_
        have sB19 := B19.size
        have hB := hB.trans (B19.mono hB.size)
        have m4 := m4.old B19
        have mg := mg.old B19
        have hO := own_below hO B19
        have ml : Blk w18 bl 3 [.int .i64 ((if 0 ≤ gt A i then cut (gt A i + m) else gt A i))] := by simpa [Value.cells] using ml
        refine s_app1 (o := o2) el29 hF (by decide) rfl rfl hO ml rfl (by simp [Value.oneCell']) hat (by omega) (by omega) (by decide) (by omega) fun v3 w20 a o3 hOn hOatn how hsrc k21 hkeep hF => ?_
        have sk21 := k21.size
        have hB := k21.under hB (by omega)
        have m4 := m4.k2 k21 (by omega)
        have mg := (hkeep _ mg.lt hne).trans mg
        have ml := ml.k2 k21 (by omega)
        have hO := hOn
        have hO_at := hOatn
        have hneg : v3.ownBlock ≠ some b5 := fun h => by rcases hsrc b5 h with h | h; exact hne h; omega
        refine s_val hF (x_fa0 fa36_1 rfl) (by decide) fun a hF => ?_
        refine s_put hF rfl rfl flat29 mg (by simp) (Rd.own hO).one fun w22 mg o23 => ?_
        have so23 := o23.size
        have hB := hB.trans (o23.below (by omega))
        have m4 := m4.only o23 (by omega)
        have hO := own_only hO o23 (hneg)
        have ml := ml.only o23 (by omega)
        refine s_end (hK11 _ _ ?_)
        refine wp_region_lit ?_
        refine s_val hF (x_addn (i + 1) (by omega) (by omega) rfl rfl) (by decide) fun a hF => ?_
        refine s_val hF (x_move rfl) (by decide) fun a hF => ?_
        have hL2 : plusK (A.take (i + 1)) m = L ++ [(if 0 ≤ gt A i then cut (gt A i + m) else gt A i)] := by rw [hL, List.take_add_one, List.getElem?_eq_getElem (by omega), gt_lt (by omega)]; simp only [plusK, List.map_append]; rfl
        refine s_end (hK' _ _ (by omega) ⟨v3, o3, ⟨mg, by rw [hL2, ints_app]; simpa using hO, hO_at, hneg, by omega⟩, by omega, m4, hB, hF.sub _ rfl⟩)
    · have hiN : i = A.length := by omega
      have hfin : L = plusK A m := by rw [hL, hiN, List.take_length]
      refine wp_exit (hK7 _ _ ?_)
      refine wp_rs fun K15 hK15 => ?_
      refine s_val hF (x_ldW wide36 mg rfl rfl) (by decide) fun a hF => ?_
      refine s_callR (R := fun u w' => ∃ v', u = .agg [.int .i64 (setl (plusC c A m) (tidyK L)), v'].toArray ∧ Rd w' v' 1 (tidyK L).length (ints (tidyK L)) ∧ v'.ownBlock = (Value.slice ag L.length cg).ownBlock) [_] hF (enters_of Try.func133 (by kernel_rfl) rfl) rfl (by decide) (tidy61 (plusC c A m) L _ w (plusC_nn hc hm) (by omega) (Rd.own hO)) ?_
      rintro _ w24 a ⟨v5, rfl, hv5, hob⟩ B25 hF
      have sB25 := B25.size
      have hB := hB.trans (B25.mono hB.size)
      have m4 := m4.old B25
      have mg := mg.old B25
      have hO := own_below hO B25
      have h1v := hv5.one
      refine s_putW hF rfl rfl (size_wide wide36) m4 rfl (one2 h1v) fun w26 m4 o27 => ?_
      have so27 := o27.size
      have hB := hB.trans (o27.below (by omega))
      have mg := mg.only o27 (by omega)
      have hO := own_only hO o27 (fun e => by have := hat _ e; omega)
      have hv5 := rd_only hv5 o27 (fun h => by have := hat _ (hob.symm.trans h); omega)
      refine s_end (hK15 _ _ ?_)
      rw [hfin] at m4 hv5
      refine wp_ret (res_cell hF rfl rfl m4 wide36 ⟨_, rfl, ⟨v5, rfl, hv5, fun j h => (hO.lt j (hob.symm.trans h)).1⟩, hB⟩)
  · have hpc : plusC c A m = min (c + m) 1099511627776 := by rw [plusC, if_pos (.inr hq.2)]; rfl
    refine wp_rs fun K16 hK16 => ?_
    refine s_val hF (x_fa0 fa36_1 rfl) (by decide) fun a hF => ?_
    refine s_val hF (x_load rfl (m_load flat29 (m2.cell (j := 1) rfl))) (by decide) fun a hF => ?_
    refine s_val hF (x_len Try.underlying83 rfl) (by decide) fun a hF => ?_
    refine s_val hF (x_eql (b := false) (decide_eq_false (by omega)) rfl rfl) (by decide) fun a hF => ?_
    refine s_val hF (x_move rfl) (by decide) fun a hF => ?_
    refine s_grd 15 hF rfl rfl rfl ?_
    refine s_val hF (x_fa0 fa36_0 rfl) (by decide) fun a hF => ?_
    refine s_grd 15 hF rfl rfl rfl ?_
    refine s_val hF (x_load rfl (m_load flat3 (m2.cell (j := 0) rfl))) (by decide) fun a hF => ?_
    refine s_grd 15 hF rfl rfl rfl ?_
    refine s_val hF (x_gtr (b := true) (decide_eq_true (by omega)) rfl rfl) (by decide) fun a hF => ?_
    refine s_val hF (x_pick (b := false) rfl rfl) (by decide) fun a hF => ?_
    refine s_end (hK16 _ _ ?_)
    refine wp_if hF rfl ?_
    refine wp_region_lit ?_
    refine s_val hF (x_fa0 fa36_0 rfl) (by decide) fun a hF => ?_
    refine s_val hF (x_load rfl (m_load flat3 (m2.cell (j := 0) rfl))) (by decide) fun a hF => ?_
    refine s_val hF (x_move rfl) (by decide) fun a hF => ?_
    refine s_val hF (x_add (by omega) (by omega) rfl rfl) (by decide) fun a hF => ?_
    refine s_val hF (x_imin rfl rfl) (by decide) fun a hF => ?_
    refine s_val hF (x_fa0 fa36_0 rfl) (by decide) fun a hF => ?_
    refine s_put hF rfl rfl flat3 m5 (by simp) rfl fun w28 m5 o29 => ?_
    have so29 := o29.size
    have hB := hB.trans (o29.below (by omega))
    have m2 := m2.only o29 (by omega)
    have m4 := m4.only o29 (by omega)
    refine s_end (hK4 _ _ ?_)
    refine wp_seq_k fun K17 hK17 => ?_
    obtain ⟨bz, hbz⟩ : ∃ b, b = b5 := ⟨_, rfl⟩
    have hbb : w0.heap.size ≤ b4 ∧ b4 < b5 := ⟨by omega, by omega⟩
    refine wp_rs fun K18 hK18 => ?_
    refine s_val hF (x_fa0 fa36_1 rfl) (by decide) fun a hF => ?_
    refine s_val hF (x_load rfl (m_load flat29 (m2.cell (j := 1) rfl))) (by decide) fun a hF => ?_
    refine s_val hF (x_len Try.underlying83 rfl) (by decide) fun a hF => ?_
    refine s_val hF (x_move rfl) (by decide) fun a hF => ?_
    refine s_end (hK18 _ _ ?_)
    refine wp_block ?_
    refine wp_up A.length (fun i a w => ∃ v' o', FA 104 w0.heap.size w b5 o' v' (plusC c A m) (plusK (A.take i) m) ∧ (o' = b5 ∨ bz < o') ∧ Blk w b4 104 [.int .i64 0, .slice none 0 0] ∧ Below w0.heap.size w0 w ∧ Fs 48 a [(29, .int .i64 (i : Int)), (28, .int .i64 (A.length : Int)), (27, .slice au A.length cu), (1, .int .i64 m), (4, .pointer (some ⟨b4, 0, none⟩)), (5, .pointer (some ⟨b5, 0, none⟩))]) ⟨_, b5, FA.start (by rw [hpc]; exact m5) (by omega), .inl rfl, m4, hB, hF.sub _ rfl⟩ ?_
    clear hF hB m4 m5
    rintro i a w hi ⟨vv, o2, hA, ho2, m4, hB, hF⟩ K' hK'
    have sB := hB.size
    obtain ⟨L, hL⟩ : ∃ L, L = plusK (A.take i) m := ⟨_, rfl⟩
    rw [← hL] at hA
    have hLl : L.length = i := by rw [hL]; simp [plusK]; omega
    have mg := hA.blk
    have hO := hA.own
    have hat := hA.at'
    have hne := hA.ne
    have hlo := hA.lo
    have hgl := mg.lt
    obtain ⟨ag, cg, rfl, hcg⟩ := hA.form
    refine wp_rs fun K19 hK19 => ?_
    refine s_val hF (x_lss rfl rfl rfl) (by decide) fun a hF => ?_
    refine s_end (hK19 _ _ ?_)
    refine wp_seq_k fun K20 hK20 => ?_
    refine wp_iff hF rfl (fun hc30 => ?_) (fun hc30 => ?_)
    · have hLAi := hLA.gt i
      have hHAi := hHA i
      obtain ⟨b6, off6, c6, hve, hrow1⟩ := rd_rowI hU (i := i) (by omega)
      cases hve
      refine wp_skip (hK20 _ _ ?_)
      refine wp_seq_k fun K21 hK21 => ?_
      refine wp_block ?_
      refine wp_rs fun K22 hK22 => ?_
      refine s_val hF (x_ixa rfl rfl (m_ixs i Try.underlying83 el29.size rfl (by omega))) (by decide) fun a hF => ?_
      refine s_val hF (x_load rfl (m_load flat3 (hrow1 _ hB))) (by decide) fun a hF => ?_
      refine s_val hF (x_assign rfl) (by decide) fun a hF => ?_
      refine s_end (hK22 _ _ ?_)
      refine wp_seq_k fun K23 hK23 => ?_
      refine wp_rs fun K24 hK24 => ?_
      refine s_val hF (x_move rfl) (by decide) fun a hF => ?_
      refine s_val hF (x_geq rfl rfl rfl) (by decide) fun a hF => ?_
      refine s_end (hK24 _ _ ?_)
      refine wp_iff hF rfl (fun hc34 => ?_) (fun hc34 => ?_)
      · skip
        refine wp_region_lit ?_
        refine s_val hF (x_move rfl) (by decide) fun a hF => ?_
        refine s_val hF (x_move rfl) (by decide) fun a hF => ?_
        refine s_val hF (x_add (by omega) (by omega) rfl rfl) (by decide) fun a hF => ?_
        refine s_val hF (x_imin rfl rfl) (by decide) fun a hF => ?_
        refine s_val hF (x_assign rfl) (by decide) fun a hF => ?_
        refine s_end (hK23 _ _ ?_)
        refine wp_region_lit ?_
        refine s_val hF (x_fa0 fa36_1 rfl) (by decide) fun a hF => ?_
        refine s_val hF (x_load rfl (m_load flat29 (mg.cell (j := 1) rfl))) (by decide) fun a hF => ?_
        refine s_val hF (x_move (v := .int .i64 (if 0 ≤ gt A i then cut (gt A i + m) else gt A i)) (by rw [if_pos hc34]; rfl)) (by decide) fun a hF => ?_
        refine s_litG [.int .i64 ((if 0 ≤ gt A i then cut (gt A i + m) else gt A i))] el29 hF (by decide) rfl (by simp [Value.cells]) rfl (by decide) (by decide) fun w30 bl a ebl ml B31 zbl hF => ?_
        have sB31 := B31.size
        have hB := hB.trans (B31.mono hB.size)
        have m4 := m4.old B31
        have mg := mg.old B31
        have hO := own_below hO B31
        have ml : Blk w30 bl 3 [.int .i64 ((if 0 ≤ gt A i then cut (gt A i + m) else gt A i))] := by simpa [Value.cells] using ml
        refine s_app1 (o := o2) el29 hF (by decide) rfl rfl hO ml rfl (by simp [Value.oneCell']) hat (by omega) (by omega) (by decide) (by omega) fun v3 w32 a o3 hOn hOatn how hsrc k33 hkeep hF => ?_
        have sk33 := k33.size
        have hB := k33.under hB (by omega)
        have m4 := m4.k2 k33 (by omega)
        have mg := (hkeep _ mg.lt hne).trans mg
        have ml := ml.k2 k33 (by omega)
        have hO := hOn
        have hO_at := hOatn
        have hneg : v3.ownBlock ≠ some b5 := fun h => by rcases hsrc b5 h with h | h; exact hne h; omega
        refine s_val hF (x_fa0 fa36_1 rfl) (by decide) fun a hF => ?_
        refine s_put hF rfl rfl flat29 mg (by simp) (Rd.own hO).one fun w34 mg o35 => ?_
        have so35 := o35.size
        have hB := hB.trans (o35.below (by omega))
        have m4 := m4.only o35 (by omega)
        have hO := own_only hO o35 (hneg)
        have ml := ml.only o35 (by omega)
        refine s_end (hK21 _ _ ?_)
        refine wp_region_lit ?_
        refine s_val hF (x_addn (i + 1) (by omega) (by omega) rfl rfl) (by decide) fun a hF => ?_
        refine s_val hF (x_move rfl) (by decide) fun a hF => ?_
        have hL2 : plusK (A.take (i + 1)) m = L ++ [(if 0 ≤ gt A i then cut (gt A i + m) else gt A i)] := by rw [hL, List.take_add_one, List.getElem?_eq_getElem (by omega), gt_lt (by omega)]; simp only [plusK, List.map_append]; rfl
        refine s_end (hK' _ _ (by omega) ⟨v3, o3, ⟨mg, by rw [hL2, ints_app]; simpa using hO, hO_at, hneg, by omega⟩, by omega, m4, hB, hF.sub _ rfl⟩)
      · skip
        refine wp_skip (hK23 _ _ ?_)
        refine wp_region_lit ?_
        refine s_val hF (x_fa0 fa36_1 rfl) (by decide) fun a hF => ?_
        refine s_val hF (x_load rfl (m_load flat29 (mg.cell (j := 1) rfl))) (by decide) fun a hF => ?_
        refine s_val hF (x_move (v := .int .i64 (if 0 ≤ gt A i then cut (gt A i + m) else gt A i)) (by rw [if_neg hc34]; rfl)) (by decide) fun a hF => ?_
        refine s_litG [.int .i64 ((if 0 ≤ gt A i then cut (gt A i + m) else gt A i))] el29 hF (by decide) rfl (by simp [Value.cells]) rfl (by decide) (by decide) fun w36 bl a ebl ml B37 zbl hF => ?_
        have sB37 := B37.size
        have hB := hB.trans (B37.mono hB.size)
        have m4 := m4.old B37
        have mg := mg.old B37
        have hO := own_below hO B37
        have ml : Blk w36 bl 3 [.int .i64 ((if 0 ≤ gt A i then cut (gt A i + m) else gt A i))] := by simpa [Value.cells] using ml
        refine s_app1 (o := o2) el29 hF (by decide) rfl rfl hO ml rfl (by simp [Value.oneCell']) hat (by omega) (by omega) (by decide) (by omega) fun v3 w38 a o3 hOn hOatn how hsrc k39 hkeep hF => ?_
        have sk39 := k39.size
        have hB := k39.under hB (by omega)
        have m4 := m4.k2 k39 (by omega)
        have mg := (hkeep _ mg.lt hne).trans mg
        have ml := ml.k2 k39 (by omega)
        have hO := hOn
        have hO_at := hOatn
        have hneg : v3.ownBlock ≠ some b5 := fun h => by rcases hsrc b5 h with h | h; exact hne h; omega
        refine s_val hF (x_fa0 fa36_1 rfl) (by decide) fun a hF => ?_
        refine s_put hF rfl rfl flat29 mg (by simp) (Rd.own hO).one fun w40 mg o41 => ?_
        have so41 := o41.size
        have hB := hB.trans (o41.below (by omega))
        have m4 := m4.only o41 (by omega)
        have hO := own_only hO o41 (hneg)
        have ml := ml.only o41 (by omega)
        refine s_end (hK21 _ _ ?_)
        refine wp_region_lit ?_
        refine s_val hF (x_addn (i + 1) (by omega) (by omega) rfl rfl) (by decide) fun a hF => ?_
        refine s_val hF (x_move rfl) (by decide) fun a hF => ?_
        have hL2 : plusK (A.take (i + 1)) m = L ++ [(if 0 ≤ gt A i then cut (gt A i + m) else gt A i)] := by rw [hL, List.take_add_one, List.getElem?_eq_getElem (by omega), gt_lt (by omega)]; simp only [plusK, List.map_append]; rfl
        refine s_end (hK' _ _ (by omega) ⟨v3, o3, ⟨mg, by rw [hL2, ints_app]; simpa using hO, hO_at, hneg, by omega⟩, by omega, m4, hB, hF.sub _ rfl⟩)
    · have hiN : i = A.length := by omega
      have hfin : L = plusK A m := by rw [hL, hiN, List.take_length]
      refine wp_exit (hK17 _ _ ?_)
      refine wp_rs fun K25 hK25 => ?_
      refine s_val hF (x_ldW wide36 mg rfl rfl) (by decide) fun a hF => ?_
      refine s_callR (R := fun u w' => ∃ v', u = .agg [.int .i64 (setl (plusC c A m) (tidyK L)), v'].toArray ∧ Rd w' v' 1 (tidyK L).length (ints (tidyK L)) ∧ v'.ownBlock = (Value.slice ag L.length cg).ownBlock) [_] hF (enters_of Try.func133 (by kernel_rfl) rfl) rfl (by decide) (tidy61 (plusC c A m) L _ w (plusC_nn hc hm) (by omega) (Rd.own hO)) ?_
      rintro _ w42 a ⟨v5, rfl, hv5, hob⟩ B43 hF
      have sB43 := B43.size
      have hB := hB.trans (B43.mono hB.size)
      have m4 := m4.old B43
      have mg := mg.old B43
      have hO := own_below hO B43
      have h1v := hv5.one
      refine s_putW hF rfl rfl (size_wide wide36) m4 rfl (one2 h1v) fun w44 m4 o45 => ?_
      have so45 := o45.size
      have hB := hB.trans (o45.below (by omega))
      have mg := mg.only o45 (by omega)
      have hO := own_only hO o45 (fun e => by have := hat _ e; omega)
      have hv5 := rd_only hv5 o45 (fun h => by have := hat _ (hob.symm.trans h); omega)
      refine s_end (hK25 _ _ ?_)
      rw [hfin] at m4 hv5
      refine wp_ret (res_cell hF rfl rfl m4 wide36 ⟨_, rfl, ⟨v5, rfl, hv5, fun j h => (hO.lt j (hob.symm.trans h)).1⟩, hB⟩)
  · have hpc : plusC c A m = c := by rw [plusC, if_neg]; rintro (h | h); exact hq.1 (by rw [h]; rfl); omega
    refine wp_rs fun K26 hK26 => ?_
    refine s_val hF (x_fa0 fa36_1 rfl) (by decide) fun a hF => ?_
    refine s_val hF (x_load rfl (m_load flat29 (m2.cell (j := 1) rfl))) (by decide) fun a hF => ?_
    refine s_val hF (x_len Try.underlying83 rfl) (by decide) fun a hF => ?_
    refine s_val hF (x_eql (b := false) (decide_eq_false (by omega)) rfl rfl) (by decide) fun a hF => ?_
    refine s_val hF (x_move rfl) (by decide) fun a hF => ?_
    refine s_grd 15 hF rfl rfl rfl ?_
    refine s_val hF (x_fa0 fa36_0 rfl) (by decide) fun a hF => ?_
    refine s_grd 15 hF rfl rfl rfl ?_
    refine s_val hF (x_load rfl (m_load flat3 (m2.cell (j := 0) rfl))) (by decide) fun a hF => ?_
    refine s_grd 15 hF rfl rfl rfl ?_
    refine s_val hF (x_gtr (b := false) (decide_eq_false (by omega)) rfl rfl) (by decide) fun a hF => ?_
    refine s_val hF (x_pick (b := false) rfl rfl) (by decide) fun a hF => ?_
    refine s_end (hK26 _ _ ?_)
    refine wp_if hF rfl ?_
    refine wp_skip (hK4 _ _ ?_)
    refine wp_seq_k fun K27 hK27 => ?_
    obtain ⟨bz, hbz⟩ : ∃ b, b = b5 := ⟨_, rfl⟩
    have hbb : w0.heap.size ≤ b4 ∧ b4 < b5 := ⟨by omega, by omega⟩
    refine wp_rs fun K28 hK28 => ?_
    refine s_val hF (x_fa0 fa36_1 rfl) (by decide) fun a hF => ?_
    refine s_val hF (x_load rfl (m_load flat29 (m2.cell (j := 1) rfl))) (by decide) fun a hF => ?_
    refine s_val hF (x_len Try.underlying83 rfl) (by decide) fun a hF => ?_
    refine s_val hF (x_move rfl) (by decide) fun a hF => ?_
    refine s_end (hK28 _ _ ?_)
    refine wp_block ?_
    refine wp_up A.length (fun i a w => ∃ v' o', FA 104 w0.heap.size w b5 o' v' (plusC c A m) (plusK (A.take i) m) ∧ (o' = b5 ∨ bz < o') ∧ Blk w b4 104 [.int .i64 0, .slice none 0 0] ∧ Below w0.heap.size w0 w ∧ Fs 48 a [(29, .int .i64 (i : Int)), (28, .int .i64 (A.length : Int)), (27, .slice au A.length cu), (1, .int .i64 m), (4, .pointer (some ⟨b4, 0, none⟩)), (5, .pointer (some ⟨b5, 0, none⟩))]) ⟨_, b5, FA.start (by rw [hpc]; exact m5) (by omega), .inl rfl, m4, hB, hF.sub _ rfl⟩ ?_
    clear hF hB m4 m5
    rintro i a w hi ⟨vv, o2, hA, ho2, m4, hB, hF⟩ K' hK'
    have sB := hB.size
    obtain ⟨L, hL⟩ : ∃ L, L = plusK (A.take i) m := ⟨_, rfl⟩
    rw [← hL] at hA
    have hLl : L.length = i := by rw [hL]; simp [plusK]; omega
    have mg := hA.blk
    have hO := hA.own
    have hat := hA.at'
    have hne := hA.ne
    have hlo := hA.lo
    have hgl := mg.lt
    obtain ⟨ag, cg, rfl, hcg⟩ := hA.form
    refine wp_rs fun K29 hK29 => ?_
    refine s_val hF (x_lss rfl rfl rfl) (by decide) fun a hF => ?_
    refine s_end (hK29 _ _ ?_)
    refine wp_seq_k fun K30 hK30 => ?_
    refine wp_iff hF rfl (fun hc30 => ?_) (fun hc30 => ?_)
    · have hLAi := hLA.gt i
      have hHAi := hHA i
      obtain ⟨b6, off6, c6, hve, hrow1⟩ := rd_rowI hU (i := i) (by omega)
      cases hve
      refine wp_skip (hK30 _ _ ?_)
      refine wp_seq_k fun K31 hK31 => ?_
      refine wp_block ?_
      refine wp_rs fun K32 hK32 => ?_
      refine s_val hF (x_ixa rfl rfl (m_ixs i Try.underlying83 el29.size rfl (by omega))) (by decide) fun a hF => ?_
      refine s_val hF (x_load rfl (m_load flat3 (hrow1 _ hB))) (by decide) fun a hF => ?_
      refine s_val hF (x_assign rfl) (by decide) fun a hF => ?_
      refine s_end (hK32 _ _ ?_)
      refine wp_seq_k fun K33 hK33 => ?_
      refine wp_rs fun K34 hK34 => ?_
      refine s_val hF (x_move rfl) (by decide) fun a hF => ?_
      refine s_val hF (x_geq rfl rfl rfl) (by decide) fun a hF => ?_
      refine s_end (hK34 _ _ ?_)
      refine wp_iff hF rfl (fun hc34 => ?_) (fun hc34 => ?_)
      · skip
        refine wp_region_lit ?_
        refine s_val hF (x_move rfl) (by decide) fun a hF => ?_
        refine s_val hF (x_move rfl) (by decide) fun a hF => ?_
        refine s_val hF (x_add (by omega) (by omega) rfl rfl) (by decide) fun a hF => ?_
        refine s_val hF (x_imin rfl rfl) (by decide) fun a hF => ?_
        refine s_val hF (x_assign rfl) (by decide) fun a hF => ?_
        refine s_end (hK33 _ _ ?_)
        refine wp_region_lit ?_
        refine s_val hF (x_fa0 fa36_1 rfl) (by decide) fun a hF => ?_
        refine s_val hF (x_load rfl (m_load flat29 (mg.cell (j := 1) rfl))) (by decide) fun a hF => ?_
        refine s_val hF (x_move (v := .int .i64 (if 0 ≤ gt A i then cut (gt A i + m) else gt A i)) (by rw [if_pos hc34]; rfl)) (by decide) fun a hF => ?_
        refine s_litG [.int .i64 ((if 0 ≤ gt A i then cut (gt A i + m) else gt A i))] el29 hF (by decide) rfl (by simp [Value.cells]) rfl (by decide) (by decide) fun w46 bl a ebl ml B47 zbl hF => ?_
        have sB47 := B47.size
        have hB := hB.trans (B47.mono hB.size)
        have m4 := m4.old B47
        have mg := mg.old B47
        have hO := own_below hO B47
        have ml : Blk w46 bl 3 [.int .i64 ((if 0 ≤ gt A i then cut (gt A i + m) else gt A i))] := by simpa [Value.cells] using ml
        refine s_app1 (o := o2) el29 hF (by decide) rfl rfl hO ml rfl (by simp [Value.oneCell']) hat (by omega) (by omega) (by decide) (by omega) fun v3 w48 a o3 hOn hOatn how hsrc k49 hkeep hF => ?_
        have sk49 := k49.size
        have hB := k49.under hB (by omega)
        have m4 := m4.k2 k49 (by omega)
        have mg := (hkeep _ mg.lt hne).trans mg
        have ml := ml.k2 k49 (by omega)
        have hO := hOn
        have hO_at := hOatn
        have hneg : v3.ownBlock ≠ some b5 := fun h => by rcases hsrc b5 h with h | h; exact hne h; omega
        refine s_val hF (x_fa0 fa36_1 rfl) (by decide) fun a hF => ?_
        refine s_put hF rfl rfl flat29 mg (by simp) (Rd.own hO).one fun w50 mg o51 => ?_
        have so51 := o51.size
        have hB := hB.trans (o51.below (by omega))
        have m4 := m4.only o51 (by omega)
        have hO := own_only hO o51 (hneg)
        have ml := ml.only o51 (by omega)
        refine s_end (hK31 _ _ ?_)
        refine wp_region_lit ?_
        refine s_val hF (x_addn (i + 1) (by omega) (by omega) rfl rfl) (by decide) fun a hF => ?_
        refine s_val hF (x_move rfl) (by decide) fun a hF => ?_
        have hL2 : plusK (A.take (i + 1)) m = L ++ [(if 0 ≤ gt A i then cut (gt A i + m) else gt A i)] := by rw [hL, List.take_add_one, List.getElem?_eq_getElem (by omega), gt_lt (by omega)]; simp only [plusK, List.map_append]; rfl
        refine s_end (hK' _ _ (by omega) ⟨v3, o3, ⟨mg, by rw [hL2, ints_app]; simpa using hO, hO_at, hneg, by omega⟩, by omega, m4, hB, hF.sub _ rfl⟩)
      · skip
        refine wp_skip (hK33 _ _ ?_)
        refine wp_region_lit ?_
        refine s_val hF (x_fa0 fa36_1 rfl) (by decide) fun a hF => ?_
        refine s_val hF (x_load rfl (m_load flat29 (mg.cell (j := 1) rfl))) (by decide) fun a hF => ?_
        refine s_val hF (x_move (v := .int .i64 (if 0 ≤ gt A i then cut (gt A i + m) else gt A i)) (by rw [if_neg hc34]; rfl)) (by decide) fun a hF => ?_
        refine s_litG [.int .i64 ((if 0 ≤ gt A i then cut (gt A i + m) else gt A i))] el29 hF (by decide) rfl (by simp [Value.cells]) rfl (by decide) (by decide) fun w52 bl a ebl ml B53 zbl hF => ?_
        have sB53 := B53.size
        have hB := hB.trans (B53.mono hB.size)
        have m4 := m4.old B53
        have mg := mg.old B53
        have hO := own_below hO B53
        have ml : Blk w52 bl 3 [.int .i64 ((if 0 ≤ gt A i then cut (gt A i + m) else gt A i))] := by simpa [Value.cells] using ml
        refine s_app1 (o := o2) el29 hF (by decide) rfl rfl hO ml rfl (by simp [Value.oneCell']) hat (by omega) (by omega) (by decide) (by omega) fun v3 w54 a o3 hOn hOatn how hsrc k55 hkeep hF => ?_
        have sk55 := k55.size
        have hB := k55.under hB (by omega)
        have m4 := m4.k2 k55 (by omega)
        have mg := (hkeep _ mg.lt hne).trans mg
        have ml := ml.k2 k55 (by omega)
        have hO := hOn
        have hO_at := hOatn
        have hneg : v3.ownBlock ≠ some b5 := fun h => by rcases hsrc b5 h with h | h; exact hne h; omega
        refine s_val hF (x_fa0 fa36_1 rfl) (by decide) fun a hF => ?_
        refine s_put hF rfl rfl flat29 mg (by simp) (Rd.own hO).one fun w56 mg o57 => ?_
        have so57 := o57.size
        have hB := hB.trans (o57.below (by omega))
        have m4 := m4.only o57 (by omega)
        have hO := own_only hO o57 (hneg)
        have ml := ml.only o57 (by omega)
        refine s_end (hK31 _ _ ?_)
        refine wp_region_lit ?_
        refine s_val hF (x_addn (i + 1) (by omega) (by omega) rfl rfl) (by decide) fun a hF => ?_
        refine s_val hF (x_move rfl) (by decide) fun a hF => ?_
        have hL2 : plusK (A.take (i + 1)) m = L ++ [(if 0 ≤ gt A i then cut (gt A i + m) else gt A i)] := by rw [hL, List.take_add_one, List.getElem?_eq_getElem (by omega), gt_lt (by omega)]; simp only [plusK, List.map_append]; rfl
        refine s_end (hK' _ _ (by omega) ⟨v3, o3, ⟨mg, by rw [hL2, ints_app]; simpa using hO, hO_at, hneg, by omega⟩, by omega, m4, hB, hF.sub _ rfl⟩)
    · have hiN : i = A.length := by omega
      have hfin : L = plusK A m := by rw [hL, hiN, List.take_length]
      refine wp_exit (hK27 _ _ ?_)
      refine wp_rs fun K35 hK35 => ?_
      refine s_val hF (x_ldW wide36 mg rfl rfl) (by decide) fun a hF => ?_
      refine s_callR (R := fun u w' => ∃ v', u = .agg [.int .i64 (setl (plusC c A m) (tidyK L)), v'].toArray ∧ Rd w' v' 1 (tidyK L).length (ints (tidyK L)) ∧ v'.ownBlock = (Value.slice ag L.length cg).ownBlock) [_] hF (enters_of Try.func133 (by kernel_rfl) rfl) rfl (by decide) (tidy61 (plusC c A m) L _ w (plusC_nn hc hm) (by omega) (Rd.own hO)) ?_
      rintro _ w58 a ⟨v5, rfl, hv5, hob⟩ B59 hF
      have sB59 := B59.size
      have hB := hB.trans (B59.mono hB.size)
      have m4 := m4.old B59
      have mg := mg.old B59
      have hO := own_below hO B59
      have h1v := hv5.one
      refine s_putW hF rfl rfl (size_wide wide36) m4 rfl (one2 h1v) fun w60 m4 o61 => ?_
      have so61 := o61.size
      have hB := hB.trans (o61.below (by omega))
      have mg := mg.only o61 (by omega)
      have hO := own_only hO o61 (fun e => by have := hat _ e; omega)
      have hv5 := rd_only hv5 o61 (fun h => by have := hat _ (hob.symm.trans h); omega)
      refine s_end (hK35 _ _ ?_)
      rw [hfin] at m4 hv5
      refine wp_ret (res_cell hF rfl rfl m4 wide36 ⟨_, rfl, ⟨v5, rfl, hv5, fun j h => (hO.lt j (hob.symm.trans h)).1⟩, hB⟩)
end Go.Proofs.Ytgpciphjhnabcaa
