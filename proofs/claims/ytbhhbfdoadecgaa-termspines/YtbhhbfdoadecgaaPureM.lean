/- The reference's tidy, both, plus, Norm, sameForm, Equal, Leq. -/
import Derived.Test.YtbhhbfdoadecgaaLev6
import Derived.Test.YtbhhbfdoadecgaaLevD
namespace Go.Proofs.Ytbhhbfdoadecgaa
set_option maxRecDepth 100000
set_option maxHeartbeats 1600000
open Go.RowKit Go.Shelf
set_option linter.unusedVariables false
set_option linter.unusedSimpArgs false
theorem mxl_take {K : List Int} {i : Nat} (h : i < K.length) : mxl (K.take (i + 1)) = max (mxl (K.take i)) (gt K i) := by
 rw [mxl, List.take_add_one, List.getElem?_eq_getElem h, gt_lt h, List.foldl_append]; rfl
theorem setl_step {c : Int} {K : List Int} {i : Nat} (h : i < K.length) (hc : 0 ≤ c) : (gt K i ≥ setl c (K.take i) → setl c (K.take (i + 1)) = 0) ∧ (¬ gt K i ≥ setl c (K.take i) → setl c (K.take (i + 1)) = setl c (K.take i)) := by
 have h1 := setl_is c (K.take i)
 have h2 := setl_is c (K.take (i + 1))
 rw [mxl_take h] at h2
 omega
theorem trim_step {ks : List Int} {f : Nat} (h : f + 1 ≤ ks.length) (hn : gt ks f < 0) : trim (f + 1) (ks.take (f + 1)) = trim f (ks.take f) := by
 have hl : (ks.take (f + 1)).length = f + 1 := by rw [List.length_take]; omega
 rw [trim, hl, if_pos ⟨by omega, by rw [gt_take, if_pos (by omega)]; exact hn⟩, List.take_take]
 congr 2
 omega
theorem trim_stop {ks : List Int} {f : Nat} (h : f ≤ ks.length) (hn : f = 0 ∨ ¬ gt ks (f - 1) < 0) : trim f (ks.take f) = ks.take f := by
 have hl : (ks.take f).length = f := by rw [List.length_take]; omega
 cases f with
 | zero => rfl
 | succ f => rw [trim, if_neg]; rw [hl, gt_take, if_pos (by omega)]; rintro ⟨_, h2⟩; rcases hn with hn | hn; omega; exact hn h2
theorem ints_take (ks : List Int) (m : Nat) : ints (ks.take m) = (ints ks).take m := List.map_take
theorem rd_take {W : World} {a : Option Addr} {c : Nat} {ks : List Int} (h : Rd W (.slice a ks.length c) 1 ks.length (ints ks)) (m : Nat) (hm : m ≤ ks.length) : Rd W (.slice a m c) 1 (ks.take m).length (ints (ks.take m)) := by
 have := h.upto m hm
 rw [Nat.mul_one] at this
 rw [ints_take, show (ks.take m).length = m by rw [List.length_take]; omega]
 exact this
theorem tidy61 (c : Int) (ks : List Int) (v : Value) (w0 : World) (hc : 0 ≤ c) (hl : ks.length ≤ 1000000) (hV : Rd w0 v 1 ks.length (ints ks)) : Calls Try.prog 117 #[.agg [.int .i64 c, v].toArray] w0 fun e w' => ∃ u, e = .returned u ∧ (∃ v', u = .agg [.int .i64 (setl c (tidyK ks)), v'].toArray ∧ Rd w' v' 1 (tidyK ks).length (ints (tidyK ks)) ∧ v'.ownBlock = v.ownBlock) ∧ Below w0.heap.size w0 w' := by
 obtain ⟨av, cv, rfl, hcv⟩ := hV.form
 have hB := Below.refl w0.heap.size w0
 have sB := hB.size
 refine calls_fs 42 [(0, .agg [.int .i64 c, .slice av ks.length cv].toArray)] Try.func117 rfl rfl rfl rfl rfl fun a F => ?_
 refine wp_rs fun _ K1 => ?_
 refine s_box ([.int .i64 c, .slice av ks.length cv]) F (by decide) rfl rfl fun w2 b1 a eb1 m1 B3 zb1 F => ?_
 have sB3 := B3.size
 have hB := bt hB B3
 refine s_alloc F (by decide) zero36 fun w4 b2 a eb2 m2 B5 zb2 F => ?_
 have sB5 := B5.size
 have hB := bt hB B5
 have m1 := m1.old B5
 refine s_end (K1 _ _ ?_)
 refine wp_seq_k fun _ K2 => ?_
 refine wp_block ?_
 refine wp_up ks.length (fun j a w => tidyK ks = trim (ks.length - j) (ks.take (ks.length - j)) ∧ Blk w b1 94 [.int .i64 c, .slice av (ks.length - j) cv] ∧ Blk w b2 94 [.int .i64 0, .slice none 0 0] ∧ Below w0.heap.size w0 w ∧ Fs 42 a [(1, .pointer (some ⟨b1, 0, none⟩)), (2, .pointer (some ⟨b2, 0, none⟩))]) ⟨by rw [Nat.sub_zero, List.take_length, tidyK], m1, m2, hB, F.sub _ rfl⟩ ?_
 have hb12 : w0.heap.size ≤ b1 ∧ w0.heap.size ≤ b2 ∧ b1 ≠ b2 := ⟨by omega, by omega, by omega⟩
 repeat clear F
 clear hB m1 m2 eb1 eb2 zb1 zb2
 rintro j a w hj ⟨htr, m1, m2, hB, F⟩ K' hK'
 have sB := hB.size
 obtain ⟨m, hm⟩ : ∃ m, m = ks.length - j := ⟨_, rfl⟩
 rw [← hm] at htr m1
 refine wp_seq_k fun _ K3 => ?_
 rcases (show m = 0 ∨ (0 < m ∧ gt ks (m - 1) < 0) ∨ (0 < m ∧ 0 ≤ gt ks (m - 1)) by omega) with hq | hq | hq
 ·
  have hst : tidyK ks = ks.take m := by rw [htr]; exact trim_stop (by omega) (by omega)
  refine wp_rs fun _ K5 => F.vl (x_fa0 fa36_1 rfl) fun a F => F.ld m1 flat29 rfl rfl fun a F => F.vl (x_len Try.underlying92 rfl) fun a F => F.vl (gtrF (by omega) rfl rfl) fun a F => F.mv rfl fun a F => s_grdn 9 F rfl rfl (by decide) fun a F => s_grdn 9 F rfl rfl (by decide) fun a F => s_grdn 9 F rfl rfl (by decide) fun a F => s_grdn 9 F rfl rfl (by decide) fun a F => s_grdn 9 F rfl rfl (by decide) fun a F => s_grdn 9 F rfl rfl (by decide) fun a F => s_grdn 9 F rfl rfl (by decide) fun a F => s_grdn 9 F rfl rfl (by decide) fun a F => s_grdn 9 F rfl rfl (by decide) fun a F => F.vl (x_pick (b := false) rfl rfl) fun a F => ?_
  refine s_end (K5 _ _ ?_)
  refine wp_if F rfl ?_
  refine wp_exit (K2 _ _ ?_)
  refine wp_seq_k fun _ K6 => ?_
  refine wp_rs fun _ K7 => F.vl (x_fa0 fa36_1 rfl) fun a F => F.ld m1 flat29 rfl rfl fun a F => F.vl (x_len Try.underlying92 rfl) fun a F => F.mv rfl fun a F => ?_
  refine s_end (K7 _ _ ?_)
  refine wp_block ?_
  refine wp_up m (fun i a w => Blk w b1 94 [.int .i64 (setl c ((ks.take m).take i)), .slice av m cv] ∧ Blk w b2 94 [.int .i64 0, .slice none 0 0] ∧ Below w0.heap.size w0 w ∧ Fs 42 a [(31, .int .i64 (i : Int)), (30, .int .i64 (m : Int)), (29, .slice av m cv), (1, .pointer (some ⟨b1, 0, none⟩)), (2, .pointer (some ⟨b2, 0, none⟩))]) ⟨by rw [show setl c ((ks.take m).take 0) = c by have := setl_is c []; have h2 : mxl [] = -1 := rfl; rw [List.take_zero]; omega]; exact m1, m2, hB, F.sub _ rfl⟩ ?_
  clear F hB m1 m2
  rintro i a w hi ⟨m1, m2, hB, F⟩ K' hK'
  have sB := hB.size
  refine wp_rs fun _ K8 => F.vl (x_lss rfl rfl rfl) fun a F => ?_
  refine s_end (K8 _ _ ?_)
  refine wp_seq_k fun _ K9 => ?_
  refine wp_iff F rfl (fun hc32 => ?_) (fun hc32 => ?_)
  ·
   obtain ⟨b4, off4, c4, hve, hrow2⟩ := rd_rowI (rd_take hV m (by omega)) (i := i) (by rw [List.length_take]; omega)
   rw [List.length_take, Nat.min_eq_left (by omega)] at hve
   cases hve
   have hss := setl_step (c := c) (K := ks.take m) (i := i) (by rw [List.length_take]; omega) hc
   refine wp_skip (K9 _ _ ?_)
   refine wp_seq_k fun _ K10 => ?_
   refine wp_block ?_
   refine wp_rs fun _ K11 => F.vl (x_ixa rfl rfl (m_ixs i Try.underlying92 el29.size rfl (by omega))) fun a F => F.vl (x_load rfl (m_load flat3 (hrow2 _ hB))) fun a F => F.sg rfl fun a F => ?_
   refine s_end (K11 _ _ ?_)
   refine wp_rs fun _ K12 => F.mv rfl fun a F => F.vl (x_fa0 fa36_0 rfl) fun a F => F.ld m1 flat3 rfl rfl fun a F => F.vl (x_geq rfl rfl rfl) fun a F => ?_
   refine s_end (K12 _ _ ?_)
   refine wp_iff F rfl (fun hc38 => ?_) (fun hc38 => ?_)
   ·
    have hs2 := hss.1 hc38
    refine wp_region_lit ?_
    refine F.vl (x_fa0 fa36_0 rfl) fun a F => ?_
    refine s_put F rfl rfl flat3 m1 (by simp) rfl fun w6 m1 o7 => ?_
    have so7 := o7.size
    have hB := hB.trans (o7.below (by omega))
    have m2 := m2.only o7 (by omega)
    refine s_end (K10 _ _ ?_)
    refine wp_region_lit ?_
    refine F.vl (x_addn (i + 1) (by omega) (by omega) rfl rfl) fun a F => F.mv rfl fun a F => ?_
    refine s_end (hK' _ _ (by omega) ⟨by rw [hs2]; exact m1, m2, hB, F.sub _ rfl⟩)
   ·
    have hs2 := hss.2 hc38
    refine wp_skip (K10 _ _ ?_)
    refine wp_region_lit ?_
    refine F.vl (x_addn (i + 1) (by omega) (by omega) rfl rfl) fun a F => F.mv rfl fun a F => ?_
    refine s_end (hK' _ _ (by omega) ⟨by rw [hs2]; exact m1, m2, hB, F.sub _ rfl⟩)
  ·
   refine wp_exit (K6 _ _ ?_)
   refine wp_rs fun _ K13 => F.vl (x_ldW wide36 m1 rfl rfl) fun a F => ?_
   refine s_putW F rfl rfl (size_wide wide36) m2 rfl (one2 rfl) fun w8 m2 o9 => ?_
   have so9 := o9.size
   have hB := hB.trans (o9.below (by omega))
   refine s_end (K13 _ _ ?_)
   obtain rfl : i = m := by omega
   rw [show (ks.take i).take i = tidyK ks by rw [List.take_take, Nat.min_self]; exact hst.symm] at m2
   refine wp_ret (res_cell F rfl rfl m2 wide36 ⟨_, rfl, ⟨_, rfl, by rw [hst]; exact (rd_take hV i (by omega)).below hB, by first | rfl | (cases av <;> rfl)⟩, hB⟩)
 ·
  have hst : tidyK ks = trim (m - 1) (ks.take (m - 1)) := by rw [htr]; have := trim_step (ks := ks) (f := m - 1) (by omega) hq.2; rwa [show m - 1 + 1 = m by omega] at this
  obtain ⟨b3, off3, c3, hve, hrow⟩ := rd_rowI (rd_take hV m (by omega)) (i := m - 1) (by rw [List.length_take]; omega)
  rw [List.length_take, Nat.min_eq_left (by omega)] at hve
  cases hve
  rw [gt_take, if_pos (by omega)] at hrow
  refine wp_rs fun _ K14 => F.vl (x_fa0 fa36_1 rfl) fun a F => F.ld m1 flat29 rfl rfl fun a F => F.vl (x_len Try.underlying92 rfl) fun a F => F.vl (gtrT (by omega) rfl rfl) fun a F => F.mv rfl fun a F => s_grd 9 F rfl rfl rfl <| F.vl (x_fa0 fa36_1 rfl) fun a F => s_grd 9 F rfl rfl rfl <| F.ld m1 flat29 rfl rfl fun a F => s_grd 9 F rfl rfl rfl <| F.vl (x_fa0 fa36_1 rfl) fun a F => s_grd 9 F rfl rfl rfl <| F.ld m1 flat29 rfl rfl fun a F => s_grd 9 F rfl rfl rfl <| F.vl (x_len Try.underlying92 rfl) fun a F => s_grd 9 F rfl rfl rfl <| F.vl (x_subn (m - 1) (by omega) (by omega) rfl rfl) fun a F => s_grd 9 F rfl rfl rfl <| F.vl (x_ixa rfl rfl (m_ixs (m - 1) Try.underlying92 el29.size rfl (by omega))) fun a F => s_grd 9 F rfl rfl rfl <| F.vl (x_load rfl (m_load flat3 (hrow _ hB))) fun a F => s_grd 9 F rfl rfl rfl <| F.vl (lssT (by omega) rfl rfl) fun a F => F.vl (x_pick (b := true) rfl rfl) fun a F => ?_
  refine s_end (K14 _ _ ?_)
  refine wp_if F rfl ?_
  refine wp_skip (K3 _ _ ?_)
  refine wp_block ?_
  refine wp_region_lit ?_
  refine F.vl (x_fa0 fa36_1 rfl) fun a F => F.ld m1 flat29 rfl rfl fun a F => F.vl (x_fa0 fa36_1 rfl) fun a F => F.ld m1 flat29 rfl rfl fun a F => F.vl (x_len Try.underlying92 rfl) fun a F => F.vl (x_subn (m - 1) (by omega) (by omega) rfl rfl) fun a F => F.vl (x_slice (vlo := none) (vhi := some (.int .i64 ((m - 1 : Nat) : Int))) (vmx := none) rfl rfl rfl rfl (m_sliceUK (m - 1) Try.underlying92 el29.size rfl (by omega))) fun a F => F.vl (x_fa0 fa36_1 rfl) fun a F => ?_
  refine s_put F rfl rfl flat29 m1 (by simp) rfl fun w10 m1 o11 => ?_
  have so11 := o11.size
  have hB := hB.trans (o11.below (by omega))
  have m2 := m2.only o11 (by omega)
  refine s_end (hK' _ _ (by omega) ⟨by rw [show ks.length - (j + 1) = m - 1 by omega]; exact hst, by rw [show ks.length - (j + 1) = m - 1 by omega]; exact m1, m2, hB, F.sub _ rfl⟩)
 ·
  have hst : tidyK ks = ks.take m := by rw [htr]; exact trim_stop (by omega) (by omega)
  obtain ⟨b3, off3, c3, hve, hrow⟩ := rd_rowI (rd_take hV m (by omega)) (i := m - 1) (by rw [List.length_take]; omega)
  rw [List.length_take, Nat.min_eq_left (by omega)] at hve
  cases hve
  rw [gt_take, if_pos (by omega)] at hrow
  refine wp_rs fun _ K15 => F.vl (x_fa0 fa36_1 rfl) fun a F => F.ld m1 flat29 rfl rfl fun a F => F.vl (x_len Try.underlying92 rfl) fun a F => F.vl (gtrT (by omega) rfl rfl) fun a F => F.mv rfl fun a F => s_grd 9 F rfl rfl rfl <| F.vl (x_fa0 fa36_1 rfl) fun a F => s_grd 9 F rfl rfl rfl <| F.ld m1 flat29 rfl rfl fun a F => s_grd 9 F rfl rfl rfl <| F.vl (x_fa0 fa36_1 rfl) fun a F => s_grd 9 F rfl rfl rfl <| F.ld m1 flat29 rfl rfl fun a F => s_grd 9 F rfl rfl rfl <| F.vl (x_len Try.underlying92 rfl) fun a F => s_grd 9 F rfl rfl rfl <| F.vl (x_subn (m - 1) (by omega) (by omega) rfl rfl) fun a F => s_grd 9 F rfl rfl rfl <| F.vl (x_ixa rfl rfl (m_ixs (m - 1) Try.underlying92 el29.size rfl (by omega))) fun a F => s_grd 9 F rfl rfl rfl <| F.vl (x_load rfl (m_load flat3 (hrow _ hB))) fun a F => s_grd 9 F rfl rfl rfl <| F.vl (lssF (by omega) rfl rfl) fun a F => F.vl (x_pick (b := true) rfl rfl) fun a F => ?_
  refine s_end (K15 _ _ ?_)
  refine wp_if F rfl ?_
  refine wp_exit (K2 _ _ ?_)
  refine wp_seq_k fun _ K16 => ?_
  refine wp_rs fun _ K17 => F.vl (x_fa0 fa36_1 rfl) fun a F => F.ld m1 flat29 rfl rfl fun a F => F.vl (x_len Try.underlying92 rfl) fun a F => F.mv rfl fun a F => ?_
  refine s_end (K17 _ _ ?_)
  refine wp_block ?_
  refine wp_up m (fun i a w => Blk w b1 94 [.int .i64 (setl c ((ks.take m).take i)), .slice (some ⟨b3, off3, none⟩) m cv] ∧ Blk w b2 94 [.int .i64 0, .slice none 0 0] ∧ Below w0.heap.size w0 w ∧ Fs 42 a [(31, .int .i64 (i : Int)), (30, .int .i64 (m : Int)), (29, .slice (some ⟨b3, off3, none⟩) m cv), (1, .pointer (some ⟨b1, 0, none⟩)), (2, .pointer (some ⟨b2, 0, none⟩))]) ⟨by rw [show setl c ((ks.take m).take 0) = c by have := setl_is c []; have h2 : mxl [] = -1 := rfl; rw [List.take_zero]; omega]; exact m1, m2, hB, F.sub _ rfl⟩ ?_
  clear F hB m1 m2
  rintro i a w hi ⟨m1, m2, hB, F⟩ K' hK'
  have sB := hB.size
  refine wp_rs fun _ K18 => F.vl (x_lss rfl rfl rfl) fun a F => ?_
  refine s_end (K18 _ _ ?_)
  refine wp_seq_k fun _ K19 => ?_
  refine wp_iff F rfl (fun hc32 => ?_) (fun hc32 => ?_)
  ·
   obtain ⟨b4, off4, c4, hve, hrow2⟩ := rd_rowI (rd_take hV m (by omega)) (i := i) (by rw [List.length_take]; omega)
   rw [List.length_take, Nat.min_eq_left (by omega)] at hve
   cases hve
   have hss := setl_step (c := c) (K := ks.take m) (i := i) (by rw [List.length_take]; omega) hc
   refine wp_skip (K19 _ _ ?_)
   refine wp_seq_k fun _ K20 => ?_
   refine wp_block ?_
   refine wp_rs fun _ K21 => F.vl (x_ixa rfl rfl (m_ixs i Try.underlying92 el29.size rfl (by omega))) fun a F => F.vl (x_load rfl (m_load flat3 (hrow2 _ hB))) fun a F => F.sg rfl fun a F => ?_
   refine s_end (K21 _ _ ?_)
   refine wp_rs fun _ K22 => F.mv rfl fun a F => F.vl (x_fa0 fa36_0 rfl) fun a F => F.ld m1 flat3 rfl rfl fun a F => F.vl (x_geq rfl rfl rfl) fun a F => ?_
   refine s_end (K22 _ _ ?_)
   refine wp_iff F rfl (fun hc38 => ?_) (fun hc38 => ?_)
   ·
    have hs2 := hss.1 hc38
    refine wp_region_lit ?_
    refine F.vl (x_fa0 fa36_0 rfl) fun a F => ?_
    refine s_put F rfl rfl flat3 m1 (by simp) rfl fun w12 m1 o13 => ?_
    have so13 := o13.size
    have hB := hB.trans (o13.below (by omega))
    have m2 := m2.only o13 (by omega)
    refine s_end (K20 _ _ ?_)
    refine wp_region_lit ?_
    refine F.vl (x_addn (i + 1) (by omega) (by omega) rfl rfl) fun a F => F.mv rfl fun a F => ?_
    refine s_end (hK' _ _ (by omega) ⟨by rw [hs2]; exact m1, m2, hB, F.sub _ rfl⟩)
   ·
    have hs2 := hss.2 hc38
    refine wp_skip (K20 _ _ ?_)
    refine wp_region_lit ?_
    refine F.vl (x_addn (i + 1) (by omega) (by omega) rfl rfl) fun a F => F.mv rfl fun a F => ?_
    refine s_end (hK' _ _ (by omega) ⟨by rw [hs2]; exact m1, m2, hB, F.sub _ rfl⟩)
  ·
   refine wp_exit (K16 _ _ ?_)
   refine wp_rs fun _ K23 => F.vl (x_ldW wide36 m1 rfl rfl) fun a F => ?_
   refine s_putW F rfl rfl (size_wide wide36) m2 rfl (one2 rfl) fun w14 m2 o15 => ?_
   have so15 := o15.size
   have hB := hB.trans (o15.below (by omega))
   refine s_end (K23 _ _ ?_)
   obtain rfl : i = m := by omega
   rw [show (ks.take i).take i = tidyK ks by rw [List.take_take, Nat.min_self]; exact hst.symm] at m2
   refine wp_ret (res_cell F rfl rfl m2 wide36 ⟨_, rfl, ⟨_, rfl, by rw [hst]; exact (rd_take hV i (by omega)).below hB, by first | rfl | (cases av <;> rfl)⟩, hB⟩)
theorem x_imaxN {P : Program} {n : Nat} {l : List (Nat × Value)} {w : World} {x y : Operand} {ts : Array TypeId} {p q N : Nat} (h : N = max p q) (hx : ov l x = some (.int .i64 (p : Int))) (hy : ov l y = some (.int .i64 (q : Int))) : Runs P n l w (.call { callee := .builtin .max, args := #[x, y], argTypes := ts }) (.int .i64 (N : Int)) := by
 have := x_imax (P := P) (n := n) (w := w) (ts := ts) hx hy
 rwa [show max (p : Int) (q : Int) = (N : Int) by omega] at this
theorem both43 (c d : Int) (A B : List Int) (u v : Value) (w0 : World) (hc : 0 ≤ c) (hd : 0 ≤ d) (hA0 : A.length ≤ 100000) (hB0 : B.length ≤ 100000) (hLA : Lo A) (hLB : Lo B) (hU : Rd w0 u 1 A.length (ints A)) (hV : Rd w0 v 1 B.length (ints B)) : Calls Try.prog 71 #[.agg [.int .i64 c, u].toArray, .agg [.int .i64 d, v].toArray] w0 fun e w' => ∃ z, e = .returned z ∧ (∃ v', z = .agg [.int .i64 (setl (max c d) (tidyK (bothK A B))), v'].toArray ∧ Rd w' v' 1 (tidyK (bothK A B)).length (ints (tidyK (bothK A B))) ∧ ∀ j, v'.ownBlock = some j → w0.heap.size ≤ j) ∧ Below w0.heap.size w0 w' := by
 obtain ⟨au, cu, rfl, _⟩ := hU.form
 obtain ⟨av, cv, rfl, _⟩ := hV.form
 obtain ⟨N, hN⟩ : ∃ N, N = max A.length B.length := ⟨_, rfl⟩
 have hB := Below.refl w0.heap.size w0
 have sB := hB.size
 refine calls_fs 55 [(0, .agg [.int .i64 c, .slice au A.length cu].toArray), (1, .agg [.int .i64 d, .slice av B.length cv].toArray)] Try.func71 rfl rfl rfl rfl rfl fun a F => ?_
 refine wp_rs fun _ K1 => ?_
 refine s_box ([.int .i64 c, .slice au A.length cu]) F (by decide) rfl rfl fun w2 b2 a eb2 m2 B3 zb2 F => ?_
 have sB3 := B3.size
 have hB := bt hB B3
 refine s_box ([.int .i64 d, .slice av B.length cv]) F (by decide) rfl rfl fun w4 b3 a eb3 m3 B5 zb3 F => ?_
 have sB5 := B5.size
 have hB := bt hB B5
 have m2 := m2.old B5
 refine s_alloc F (by decide) zero36 fun w6 b4 a eb4 m4 B7 zb4 F => ?_
 have sB7 := B7.size
 have hB := bt hB B7
 have m2 := m2.old B7
 have m3 := m3.old B7
 refine s_end (K1 _ _ ?_)
 refine wp_rs fun _ K2 => F.vl (x_fa0 fa36_0 rfl) fun a F => F.ld m2 flat3 rfl rfl fun a F => F.vl (x_fa0 fa36_0 rfl) fun a F => F.ld m3 flat3 rfl rfl fun a F => F.vl (x_imax rfl rfl) fun a F => F.vl (x_build (vs := [(0, _)]) rfl (b36_0 _ _)) fun a F => ?_
 refine s_alloc F (by decide) zero36 fun w8 b5 a eb5 m5 B9 zb5 F => ?_
 have sB9 := B9.size
 have hB := bt hB B9
 have m2 := m2.old B9
 have m3 := m3.old B9
 have m4 := m4.old B9
 refine s_putW F rfl rfl (size_wide wide36) m5 rfl (one2 rfl) fun w10 m5 o11 => ?_
 have so11 := o11.size
 have hB := hB.trans (o11.below (by omega))
 have m2 := m2.only o11 (by omega)
 have m3 := m3.only o11 (by omega)
 have m4 := m4.only o11 (by omega)
 refine s_end (K2 _ _ ?_)
 refine wp_seq_k fun _ K3 => ?_
 obtain ⟨bz, hbz⟩ : ∃ b, b = b5 := ⟨_, rfl⟩
 have hbb : w0.heap.size ≤ b2 ∧ b2 < b3 ∧ b3 < b4 ∧ b4 < b5 := ⟨by omega, by omega, by omega, by omega⟩
 refine wp_rs fun _ K4 => F.vl (x_fa0 fa36_1 rfl) fun a F => F.ld m2 flat29 rfl rfl fun a F => F.vl (x_len Try.underlying92 rfl) fun a F => F.vl (x_fa0 fa36_1 rfl) fun a F => F.ld m3 flat29 rfl rfl fun a F => F.vl (x_len Try.underlying92 rfl) fun a F => F.vl (x_imaxN hN rfl rfl) fun a F => F.mv rfl fun a F => ?_
 refine s_end (K4 _ _ ?_)
 refine wp_block ?_
 refine wp_up N (fun i a w => ∃ v' o', FA 94 w0.heap.size w b5 o' v' (max c d) ((List.range i).map fun i => max (gt A i) (gt B i)) ∧ (o' = b5 ∨ bz < o') ∧ Blk w b2 94 [.int .i64 c, .slice au A.length cu] ∧ Blk w b3 94 [.int .i64 d, .slice av B.length cv] ∧ Blk w b4 94 [.int .i64 0, .slice none 0 0] ∧ Below w0.heap.size w0 w ∧ Fs 55 a [(21, .int .i64 (i : Int)), (20, .int .i64 (N : Int)), (2, .pointer (some ⟨b2, 0, none⟩)), (3, .pointer (some ⟨b3, 0, none⟩)), (4, .pointer (some ⟨b4, 0, none⟩)), (5, .pointer (some ⟨b5, 0, none⟩))]) ⟨_, b5, FA.start m5 (by omega), .inl rfl, m2, m3, m4, hB, F.sub _ rfl⟩ ?_
 clear F hB m2 m3 m4 m5
 rintro i a w hi ⟨vv, o2, hA, ho2, m2, m3, m4, hB, F⟩ K' hK'
 have sB := hB.size
 obtain ⟨L, hL⟩ : ∃ L, L = (List.range i).map fun i => max (gt A i) (gt B i) := ⟨_, rfl⟩
 rw [← hL] at hA
 have hLl : L.length = i := by rw [hL]; simp
 have mg := hA.blk
 have hO := hA.own
 have hat := hA.at'
 have hne := hA.ne
 have hlo := hA.lo
 have hgl := mg.lt
 obtain ⟨ag, cg, rfl, hcg⟩ := hA.form
 refine wp_rs fun _ K5 => F.vl (x_lss (b := decide (i < N)) (decide_eq_decide.2 (by omega)) rfl rfl) fun a F => ?_
 refine s_end (K5 _ _ ?_)
 refine wp_seq_k fun _ K6 => ?_
 refine wp_iff F rfl (fun hc22 => ?_) (fun hc22 => ?_)
 ·
  refine wp_skip (K6 _ _ ?_)
  refine wp_seq_k fun _ K7 => ?_
  refine wp_block ?_
  refine wp_rs fun _ K8 => F.mv rfl fun a F => F.sg rfl fun a F => ?_
  refine s_end (K8 _ _ ?_)
  refine wp_rs fun _ K9 => F.sg rfl fun a F => ?_
  refine s_end (K9 _ _ ?_)
  refine wp_seq_k fun _ K10 => ?_
  refine wp_rs fun _ K11 => F.mv rfl fun a F => F.vl (x_fa0 fa36_1 rfl) fun a F => F.ld m2 flat29 rfl rfl fun a F => F.vl (x_len Try.underlying92 rfl) fun a F => F.vl (x_lss (b := decide (i < A.length)) (decide_eq_decide.2 (by omega)) rfl rfl) fun a F => ?_
  refine s_end (K11 _ _ ?_)
  refine wp_iff F rfl (fun hc28 => ?_) (fun hc28 => ?_)
  ·
   have hLAi := hLA.gt i
   obtain ⟨b6, off6, c6, hve, hrow1⟩ := rd_rowI hU (i := i) (by omega)
   cases hve
   refine wp_region_lit ?_
   refine F.vl (x_fa0 fa36_1 rfl) fun a F => F.ld m2 flat29 rfl rfl fun a F => F.mv rfl fun a F => F.vl (x_ixa rfl rfl (m_ixs i Try.underlying92 el29.size rfl (by omega))) fun a F => F.vl (x_load rfl (m_load flat3 (hrow1 _ hB))) fun a F => F.sg rfl fun a F => ?_
   refine s_end (K10 _ _ ?_)
   refine wp_seq_k fun _ K12 => ?_
   refine wp_rs fun _ K13 => F.mv rfl fun a F => F.vl (x_fa0 fa36_1 rfl) fun a F => F.ld m3 flat29 rfl rfl fun a F => F.vl (x_len Try.underlying92 rfl) fun a F => F.vl (x_lss (b := decide (i < B.length)) (decide_eq_decide.2 (by omega)) rfl rfl) fun a F => ?_
   refine s_end (K13 _ _ ?_)
   refine wp_iff F rfl (fun hc38 => ?_) (fun hc38 => ?_)
   ·
    obtain ⟨b7, off7, c7, hve, hrow2⟩ := rd_rowI hV (i := i) (by omega)
    cases hve
    refine wp_region_lit ?_
    refine F.mv rfl fun a F => F.vl (x_fa0 fa36_1 rfl) fun a F => F.ld m3 flat29 rfl rfl fun a F => F.mv rfl fun a F => F.vl (x_ixa rfl rfl (m_ixs i Try.underlying92 el29.size rfl (by omega))) fun a F => F.vl (x_load rfl (m_load flat3 (hrow2 _ hB))) fun a F => F.vl (x_imax rfl rfl) fun a F => F.sg rfl fun a F => ?_
    refine s_end (K12 _ _ ?_)
    refine wp_region_lit ?_
    refine F.vl (x_fa0 fa36_1 rfl) fun a F => F.ld mg flat29 rfl rfl fun a F => F.vl (x_move (v := .int .i64 (max (gt A i) (gt B i))) rfl) fun a F => ?_
    refine s_litG [.int .i64 (max (gt A i) (gt B i))] el29 F (by decide) rfl (by simp [Value.cells]) rfl (by decide) (by decide) fun w12 bl a ebl ml B13 zbl F => ?_
    have sB13 := B13.size
    have hB := bt hB B13
    have m2 := m2.old B13
    have m3 := m3.old B13
    have m4 := m4.old B13
    have mg := mg.old B13
    have hO := own_below hO B13
    have ml : Blk w12 bl 3 [.int .i64 (max (gt A i) (gt B i))] := by simpa [Value.cells] using ml
    refine s_app1 (o := o2) el29 F (by decide) rfl rfl hO ml rfl (by simp [Value.oneCell']) hat (by omega) (by omega) (by decide) (by omega) fun v3 w14 a o3 hOn hOatn how hsrc k15 hkeep F => ?_
    have sk15 := k15.size
    have hB := k15.under hB (by omega)
    have m2 := m2.k2 k15 (by omega)
    have m3 := m3.k2 k15 (by omega)
    have m4 := m4.k2 k15 (by omega)
    have mg := (hkeep _ mg.lt hne).trans mg
    have hO := hOn
    have hO_at := hOatn
    have hneg : v3.ownBlock ≠ some b5 := fun h => by rcases hsrc b5 h with h | h; exact hne h; omega
    refine F.vl (x_fa0 fa36_1 rfl) fun a F => ?_
    refine s_put F rfl rfl flat29 mg (by simp) (Rd.own hO).one fun w16 mg o17 => ?_
    have so17 := o17.size
    have hB := hB.trans (o17.below (by omega))
    have m2 := m2.only o17 (by omega)
    have m3 := m3.only o17 (by omega)
    have m4 := m4.only o17 (by omega)
    have hO := own_only hO o17 (hneg)
    refine s_end (K7 _ _ ?_)
    refine wp_region_lit ?_
    refine F.vl (x_addn (i + 1) (by omega) (by omega) rfl rfl) fun a F => F.mv rfl fun a F => ?_
    have hL2 : ((List.range (i + 1)).map fun i => max (gt A i) (gt B i)) = L ++ [max (gt A i) (gt B i)] := by rw [hL, List.range_succ, List.map_append]; rfl
    refine s_end (hK' _ _ (by omega) ⟨v3, o3, ⟨mg, by rw [hL2, ints_app]; simpa using hO, hO_at, hneg, by omega⟩, by omega, m2, m3, m4, hB, F.sub _ rfl⟩)
   ·
    skip
    refine wp_skip (K12 _ _ ?_)
    refine wp_region_lit ?_
    refine F.vl (x_fa0 fa36_1 rfl) fun a F => F.ld mg flat29 rfl rfl fun a F => F.vl (x_move (v := .int .i64 (max (gt A i) (gt B i))) (by rw [show max (gt A i) (gt B i) = gt A i by rw [gt_ge (L := B) (by omega)]; omega]; rfl)) fun a F => ?_
    refine s_litG [.int .i64 (max (gt A i) (gt B i))] el29 F (by decide) rfl (by simp [Value.cells]) rfl (by decide) (by decide) fun w18 bl a ebl ml B19 zbl F => ?_
    have sB19 := B19.size
    have hB := bt hB B19
    have m2 := m2.old B19
    have m3 := m3.old B19
    have m4 := m4.old B19
    have mg := mg.old B19
    have hO := own_below hO B19
    have ml : Blk w18 bl 3 [.int .i64 (max (gt A i) (gt B i))] := by simpa [Value.cells] using ml
    refine s_app1 (o := o2) el29 F (by decide) rfl rfl hO ml rfl (by simp [Value.oneCell']) hat (by omega) (by omega) (by decide) (by omega) fun v3 w20 a o3 hOn hOatn how hsrc k21 hkeep F => ?_
    have sk21 := k21.size
    have hB := k21.under hB (by omega)
    have m2 := m2.k2 k21 (by omega)
    have m3 := m3.k2 k21 (by omega)
    have m4 := m4.k2 k21 (by omega)
    have mg := (hkeep _ mg.lt hne).trans mg
    have hO := hOn
    have hO_at := hOatn
    have hneg : v3.ownBlock ≠ some b5 := fun h => by rcases hsrc b5 h with h | h; exact hne h; omega
    refine F.vl (x_fa0 fa36_1 rfl) fun a F => ?_
    refine s_put F rfl rfl flat29 mg (by simp) (Rd.own hO).one fun w22 mg o23 => ?_
    have so23 := o23.size
    have hB := hB.trans (o23.below (by omega))
    have m2 := m2.only o23 (by omega)
    have m3 := m3.only o23 (by omega)
    have m4 := m4.only o23 (by omega)
    have hO := own_only hO o23 (hneg)
    refine s_end (K7 _ _ ?_)
    refine wp_region_lit ?_
    refine F.vl (x_addn (i + 1) (by omega) (by omega) rfl rfl) fun a F => F.mv rfl fun a F => ?_
    have hL2 : ((List.range (i + 1)).map fun i => max (gt A i) (gt B i)) = L ++ [max (gt A i) (gt B i)] := by rw [hL, List.range_succ, List.map_append]; rfl
    refine s_end (hK' _ _ (by omega) ⟨v3, o3, ⟨mg, by rw [hL2, ints_app]; simpa using hO, hO_at, hneg, by omega⟩, by omega, m2, m3, m4, hB, F.sub _ rfl⟩)
  ·
   skip
   refine wp_skip (K10 _ _ ?_)
   refine wp_seq_k fun _ K14 => ?_
   refine wp_rs fun _ K15 => F.mv rfl fun a F => F.vl (x_fa0 fa36_1 rfl) fun a F => F.ld m3 flat29 rfl rfl fun a F => F.vl (x_len Try.underlying92 rfl) fun a F => F.vl (x_lss (b := decide (i < B.length)) (decide_eq_decide.2 (by omega)) rfl rfl) fun a F => ?_
   refine s_end (K15 _ _ ?_)
   refine wp_iff F rfl (fun hc38 => ?_) (fun hc38 => ?_)
   ·
    obtain ⟨b7, off7, c7, hve, hrow2⟩ := rd_rowI hV (i := i) (by omega)
    cases hve
    refine wp_region_lit ?_
    refine F.mv rfl fun a F => F.vl (x_fa0 fa36_1 rfl) fun a F => F.ld m3 flat29 rfl rfl fun a F => F.mv rfl fun a F => F.vl (x_ixa rfl rfl (m_ixs i Try.underlying92 el29.size rfl (by omega))) fun a F => F.vl (x_load rfl (m_load flat3 (hrow2 _ hB))) fun a F => F.vl (x_imax rfl rfl) fun a F => F.sg rfl fun a F => ?_
    refine s_end (K14 _ _ ?_)
    refine wp_region_lit ?_
    refine F.vl (x_fa0 fa36_1 rfl) fun a F => F.ld mg flat29 rfl rfl fun a F => F.vl (x_move (v := .int .i64 (max (gt A i) (gt B i))) (by rw [show max (gt A i) (gt B i) = max (-1) (gt B i) by rw [gt_ge (L := A) (by omega)]]; rfl)) fun a F => ?_
    refine s_litG [.int .i64 (max (gt A i) (gt B i))] el29 F (by decide) rfl (by simp [Value.cells]) rfl (by decide) (by decide) fun w24 bl a ebl ml B25 zbl F => ?_
    have sB25 := B25.size
    have hB := bt hB B25
    have m2 := m2.old B25
    have m3 := m3.old B25
    have m4 := m4.old B25
    have mg := mg.old B25
    have hO := own_below hO B25
    have ml : Blk w24 bl 3 [.int .i64 (max (gt A i) (gt B i))] := by simpa [Value.cells] using ml
    refine s_app1 (o := o2) el29 F (by decide) rfl rfl hO ml rfl (by simp [Value.oneCell']) hat (by omega) (by omega) (by decide) (by omega) fun v3 w26 a o3 hOn hOatn how hsrc k27 hkeep F => ?_
    have sk27 := k27.size
    have hB := k27.under hB (by omega)
    have m2 := m2.k2 k27 (by omega)
    have m3 := m3.k2 k27 (by omega)
    have m4 := m4.k2 k27 (by omega)
    have mg := (hkeep _ mg.lt hne).trans mg
    have hO := hOn
    have hO_at := hOatn
    have hneg : v3.ownBlock ≠ some b5 := fun h => by rcases hsrc b5 h with h | h; exact hne h; omega
    refine F.vl (x_fa0 fa36_1 rfl) fun a F => ?_
    refine s_put F rfl rfl flat29 mg (by simp) (Rd.own hO).one fun w28 mg o29 => ?_
    have so29 := o29.size
    have hB := hB.trans (o29.below (by omega))
    have m2 := m2.only o29 (by omega)
    have m3 := m3.only o29 (by omega)
    have m4 := m4.only o29 (by omega)
    have hO := own_only hO o29 (hneg)
    refine s_end (K7 _ _ ?_)
    refine wp_region_lit ?_
    refine F.vl (x_addn (i + 1) (by omega) (by omega) rfl rfl) fun a F => F.mv rfl fun a F => ?_
    have hL2 : ((List.range (i + 1)).map fun i => max (gt A i) (gt B i)) = L ++ [max (gt A i) (gt B i)] := by rw [hL, List.range_succ, List.map_append]; rfl
    refine s_end (hK' _ _ (by omega) ⟨v3, o3, ⟨mg, by rw [hL2, ints_app]; simpa using hO, hO_at, hneg, by omega⟩, by omega, m2, m3, m4, hB, F.sub _ rfl⟩)
   ·
    omega
 ·
  have hiN : i = N := by omega
  have hfin : L = bothK A B := by rw [hL, hiN, hN, bothK]
  refine wp_exit (K3 _ _ ?_)
  refine wp_rs fun _ K16 => F.vl (x_ldW wide36 mg rfl rfl) fun a F => ?_
  refine s_callR (R := fun u w' => ∃ v', u = .agg [.int .i64 (setl (max c d) (tidyK L)), v'].toArray ∧ Rd w' v' 1 (tidyK L).length (ints (tidyK L)) ∧ v'.ownBlock = (Value.slice ag L.length cg).ownBlock) [_] F E117 rfl (by decide) (tidy61 (max c d) L _ w (by omega) (by omega) (Rd.own hO)) ?_
  rintro _ w30 a ⟨v5, rfl, hv5, hob⟩ B31 F
  have sB31 := B31.size
  have hB := bt hB B31
  have m4 := m4.old B31
  have hO := own_below hO B31
  have h1v := hv5.one
  refine s_putW F rfl rfl (size_wide wide36) m4 rfl (one2 h1v) fun w32 m4 o33 => ?_
  have so33 := o33.size
  have hB := hB.trans (o33.below (by omega))
  have hO := own_only hO o33 (fun e => by have := hat _ e; omega)
  have hv5 := rd_only hv5 o33 (fun h => by have := hat _ (hob.symm.trans h); omega)
  refine s_end (K16 _ _ ?_)
  rw [hfin] at m4 hv5
  refine wp_ret (res_cell F rfl rfl m4 wide36 ⟨_, rfl, ⟨v5, rfl, hv5, fun j h => (hO.lt j (hob.symm.trans h)).1⟩, hB⟩)
theorem plus42 (c : Int) (A : List Int) (u : Value) (m : Int) (w0 : World) (hc : 0 ≤ c) (hc1 : c ≤ 1099511627776) (hm : 0 ≤ m) (hm1 : m ≤ 1099511627776) (hA0 : A.length ≤ 100000) (hLA : Lo A) (hHA : ∀ j, gt A j ≤ 1099511627776) (hU : Rd w0 u 1 A.length (ints A)) : Calls Try.prog 72 #[.agg [.int .i64 c, u].toArray, .int .i64 m] w0 fun e w' => ∃ z, e = .returned z ∧ (∃ v', z = .agg [.int .i64 (setl (plusC c A m) (tidyK (plusK A m))), v'].toArray ∧ Rd w' v' 1 (tidyK (plusK A m)).length (ints (tidyK (plusK A m))) ∧ ∀ j, v'.ownBlock = some j → w0.heap.size ≤ j) ∧ Below w0.heap.size w0 w' := by
 obtain ⟨au, cu, rfl, _⟩ := hU.form
 have hB := Below.refl w0.heap.size w0
 have sB := hB.size
 refine calls_fs 48 [(0, .agg [.int .i64 c, .slice au A.length cu].toArray), (1, .int .i64 m)] Try.func72 rfl rfl rfl rfl rfl fun a F => ?_
 refine wp_rs fun _ K1 => ?_
 refine s_box ([.int .i64 c, .slice au A.length cu]) F (by decide) rfl rfl fun w2 b2 a eb2 m2 B3 zb2 F => ?_
 have sB3 := B3.size
 have hB := bt hB B3
 refine s_alloc F (by decide) zero36 fun w4 b4 a eb4 m4 B5 zb4 F => ?_
 have sB5 := B5.size
 have hB := bt hB B5
 have m2 := m2.old B5
 refine s_end (K1 _ _ ?_)
 refine wp_rs fun _ K2 => ?_
 refine s_alloc F (by decide) zero36 fun w6 b5 a eb5 m5 B7 zb5 F => ?_
 have sB7 := B7.size
 have hB := bt hB B7
 have m2 := m2.old B7
 have m4 := m4.old B7
 refine s_end (K2 _ _ ?_)
 refine wp_rs fun _ K3 => F.vl (x_fa0 fa36_0 rfl) fun a F => F.ld m2 flat3 rfl rfl fun a F => F.vl (x_fa0 fa36_0 rfl) fun a F => ?_
 refine s_put F rfl rfl flat3 m5 (by simp) rfl fun w8 m5 o9 => ?_
 have so9 := o9.size
 have hB := hB.trans (o9.below (by omega))
 have m2 := m2.only o9 (by omega)
 have m4 := m4.only o9 (by omega)
 refine s_end (K3 _ _ ?_)
 refine wp_seq_k fun _ K4 => ?_
 rcases (show A.length = 0 ∨ (A.length ≠ 0 ∧ 0 < c) ∨ (A.length ≠ 0 ∧ c ≤ 0) by omega) with hq | hq | hq
 ·
  have hpc : plusC c A m = min (c + m) 1099511627776 := by rw [plusC, if_pos (.inl (List.eq_nil_of_length_eq_zero hq))]; rfl
  refine wp_rs fun _ K6 => F.vl (x_fa0 fa36_1 rfl) fun a F => F.ld m2 flat29 rfl rfl fun a F => F.vl (x_len Try.underlying92 rfl) fun a F => F.vl (eqlT (by omega) rfl rfl) fun a F => F.mv rfl fun a F => s_grdn 15 F rfl rfl (by decide) fun a F => s_grdn 15 F rfl rfl (by decide) fun a F => s_grdn 15 F rfl rfl (by decide) fun a F => F.vl (x_pick (b := true) rfl rfl) fun a F => ?_
  refine s_end (K6 _ _ ?_)
  refine wp_if F rfl ?_
  refine wp_region_lit ?_
  refine F.vl (x_fa0 fa36_0 rfl) fun a F => F.ld m2 flat3 rfl rfl fun a F => F.mv rfl fun a F => F.vl (x_add (by omega) (by omega) rfl rfl) fun a F => F.vl (x_imin rfl rfl) fun a F => F.vl (x_fa0 fa36_0 rfl) fun a F => ?_
  refine s_put F rfl rfl flat3 m5 (by simp) rfl fun w10 m5 o11 => ?_
  have so11 := o11.size
  have hB := hB.trans (o11.below (by omega))
  have m2 := m2.only o11 (by omega)
  have m4 := m4.only o11 (by omega)
  refine s_end (K4 _ _ ?_)
  refine wp_seq_k fun _ K7 => ?_
  obtain ⟨bz, hbz⟩ : ∃ b, b = b5 := ⟨_, rfl⟩
  have hbb : w0.heap.size ≤ b4 ∧ b4 < b5 := ⟨by omega, by omega⟩
  refine wp_rs fun _ K8 => F.vl (x_fa0 fa36_1 rfl) fun a F => F.ld m2 flat29 rfl rfl fun a F => F.vl (x_len Try.underlying92 rfl) fun a F => F.mv rfl fun a F => ?_
  refine s_end (K8 _ _ ?_)
  refine wp_block ?_
  refine wp_up A.length (fun i a w => ∃ v' o', FA 94 w0.heap.size w b5 o' v' (plusC c A m) (plusK (A.take i) m) ∧ (o' = b5 ∨ bz < o') ∧ Blk w b4 94 [.int .i64 0, .slice none 0 0] ∧ Below w0.heap.size w0 w ∧ Fs 48 a [(29, .int .i64 (i : Int)), (28, .int .i64 (A.length : Int)), (27, .slice au A.length cu), (1, .int .i64 m), (4, .pointer (some ⟨b4, 0, none⟩)), (5, .pointer (some ⟨b5, 0, none⟩))]) ⟨_, b5, FA.start (by rw [hpc]; exact m5) (by omega), .inl rfl, m4, hB, F.sub _ rfl⟩ ?_
  clear F hB m4 m5
  rintro i a w hi ⟨vv, o2, hA, ho2, m4, hB, F⟩ K' hK'
  have sB := hB.size
  obtain ⟨L, hL⟩ : ∃ L, L = plusK (A.take i) m := ⟨_, rfl⟩
  rw [← hL] at hA
  have hLl : L.length = i := by rw [hL]; simp [plusK]; omega
  have mg := hA.blk
  have hO := hA.own
  have hat := hA.at'
  have hne := hA.ne
  have hlo := hA.lo
  have hgl := mg.lt
  obtain ⟨ag, cg, rfl, hcg⟩ := hA.form
  refine wp_rs fun _ K9 => F.vl (x_lss rfl rfl rfl) fun a F => ?_
  refine s_end (K9 _ _ ?_)
  refine wp_seq_k fun _ K10 => ?_
  refine wp_iff F rfl (fun hc30 => ?_) (fun hc30 => ?_)
  ·
   have hLAi := hLA.gt i
   have hHAi := hHA i
   obtain ⟨b6, off6, c6, hve, hrow1⟩ := rd_rowI hU (i := i) (by omega)
   cases hve
   refine wp_skip (K10 _ _ ?_)
   refine wp_seq_k fun _ K11 => ?_
   refine wp_block ?_
   refine wp_rs fun _ K12 => F.vl (x_ixa rfl rfl (m_ixs i Try.underlying92 el29.size rfl (by omega))) fun a F => F.vl (x_load rfl (m_load flat3 (hrow1 _ hB))) fun a F => F.sg rfl fun a F => ?_
   refine s_end (K12 _ _ ?_)
   refine wp_seq_k fun _ K13 => ?_
   refine wp_rs fun _ K14 => F.mv rfl fun a F => F.vl (x_geq rfl rfl rfl) fun a F => ?_
   refine s_end (K14 _ _ ?_)
   refine wp_iff F rfl (fun hc34 => ?_) (fun hc34 => ?_)
   ·
    skip
    refine wp_region_lit ?_
    refine F.mv rfl fun a F => F.mv rfl fun a F => F.vl (x_add (by omega) (by omega) rfl rfl) fun a F => F.vl (x_imin rfl rfl) fun a F => F.sg rfl fun a F => ?_
    refine s_end (K13 _ _ ?_)
    refine wp_region_lit ?_
    refine F.vl (x_fa0 fa36_1 rfl) fun a F => F.ld mg flat29 rfl rfl fun a F => F.vl (x_move (v := .int .i64 (if 0 ≤ gt A i then cut (gt A i + m) else gt A i)) (by rw [if_pos hc34]; rfl)) fun a F => ?_
    refine s_litG [.int .i64 ((if 0 ≤ gt A i then cut (gt A i + m) else gt A i))] el29 F (by decide) rfl (by simp [Value.cells]) rfl (by decide) (by decide) fun w12 bl a ebl ml B13 zbl F => ?_
    have sB13 := B13.size
    have hB := bt hB B13
    have m4 := m4.old B13
    have mg := mg.old B13
    have hO := own_below hO B13
    have ml : Blk w12 bl 3 [.int .i64 ((if 0 ≤ gt A i then cut (gt A i + m) else gt A i))] := by simpa [Value.cells] using ml
    refine s_app1 (o := o2) el29 F (by decide) rfl rfl hO ml rfl (by simp [Value.oneCell']) hat (by omega) (by omega) (by decide) (by omega) fun v3 w14 a o3 hOn hOatn how hsrc k15 hkeep F => ?_
    have sk15 := k15.size
    have hB := k15.under hB (by omega)
    have m4 := m4.k2 k15 (by omega)
    have mg := (hkeep _ mg.lt hne).trans mg
    have hO := hOn
    have hO_at := hOatn
    have hneg : v3.ownBlock ≠ some b5 := fun h => by rcases hsrc b5 h with h | h; exact hne h; omega
    refine F.vl (x_fa0 fa36_1 rfl) fun a F => ?_
    refine s_put F rfl rfl flat29 mg (by simp) (Rd.own hO).one fun w16 mg o17 => ?_
    have so17 := o17.size
    have hB := hB.trans (o17.below (by omega))
    have m4 := m4.only o17 (by omega)
    have hO := own_only hO o17 (hneg)
    refine s_end (K11 _ _ ?_)
    refine wp_region_lit ?_
    refine F.vl (x_addn (i + 1) (by omega) (by omega) rfl rfl) fun a F => F.mv rfl fun a F => ?_
    have hL2 : plusK (A.take (i + 1)) m = L ++ [(if 0 ≤ gt A i then cut (gt A i + m) else gt A i)] := by rw [hL, List.take_add_one, List.getElem?_eq_getElem (by omega), gt_lt (by omega)]; simp only [plusK, List.map_append]; rfl
    refine s_end (hK' _ _ (by omega) ⟨v3, o3, ⟨mg, by rw [hL2, ints_app]; simpa using hO, hO_at, hneg, by omega⟩, by omega, m4, hB, F.sub _ rfl⟩)
   ·
    skip
    refine wp_skip (K13 _ _ ?_)
    refine wp_region_lit ?_
    refine F.vl (x_fa0 fa36_1 rfl) fun a F => F.ld mg flat29 rfl rfl fun a F => F.vl (x_move (v := .int .i64 (if 0 ≤ gt A i then cut (gt A i + m) else gt A i)) (by rw [if_neg hc34]; rfl)) fun a F => ?_
    refine s_litG [.int .i64 ((if 0 ≤ gt A i then cut (gt A i + m) else gt A i))] el29 F (by decide) rfl (by simp [Value.cells]) rfl (by decide) (by decide) fun w18 bl a ebl ml B19 zbl F => ?_
    have sB19 := B19.size
    have hB := bt hB B19
    have m4 := m4.old B19
    have mg := mg.old B19
    have hO := own_below hO B19
    have ml : Blk w18 bl 3 [.int .i64 ((if 0 ≤ gt A i then cut (gt A i + m) else gt A i))] := by simpa [Value.cells] using ml
    refine s_app1 (o := o2) el29 F (by decide) rfl rfl hO ml rfl (by simp [Value.oneCell']) hat (by omega) (by omega) (by decide) (by omega) fun v3 w20 a o3 hOn hOatn how hsrc k21 hkeep F => ?_
    have sk21 := k21.size
    have hB := k21.under hB (by omega)
    have m4 := m4.k2 k21 (by omega)
    have mg := (hkeep _ mg.lt hne).trans mg
    have hO := hOn
    have hO_at := hOatn
    have hneg : v3.ownBlock ≠ some b5 := fun h => by rcases hsrc b5 h with h | h; exact hne h; omega
    refine F.vl (x_fa0 fa36_1 rfl) fun a F => ?_
    refine s_put F rfl rfl flat29 mg (by simp) (Rd.own hO).one fun w22 mg o23 => ?_
    have so23 := o23.size
    have hB := hB.trans (o23.below (by omega))
    have m4 := m4.only o23 (by omega)
    have hO := own_only hO o23 (hneg)
    refine s_end (K11 _ _ ?_)
    refine wp_region_lit ?_
    refine F.vl (x_addn (i + 1) (by omega) (by omega) rfl rfl) fun a F => F.mv rfl fun a F => ?_
    have hL2 : plusK (A.take (i + 1)) m = L ++ [(if 0 ≤ gt A i then cut (gt A i + m) else gt A i)] := by rw [hL, List.take_add_one, List.getElem?_eq_getElem (by omega), gt_lt (by omega)]; simp only [plusK, List.map_append]; rfl
    refine s_end (hK' _ _ (by omega) ⟨v3, o3, ⟨mg, by rw [hL2, ints_app]; simpa using hO, hO_at, hneg, by omega⟩, by omega, m4, hB, F.sub _ rfl⟩)
  ·
   have hiN : i = A.length := by omega
   have hfin : L = plusK A m := by rw [hL, hiN, List.take_length]
   refine wp_exit (K7 _ _ ?_)
   refine wp_rs fun _ K15 => F.vl (x_ldW wide36 mg rfl rfl) fun a F => ?_
   refine s_callR (R := fun u w' => ∃ v', u = .agg [.int .i64 (setl (plusC c A m) (tidyK L)), v'].toArray ∧ Rd w' v' 1 (tidyK L).length (ints (tidyK L)) ∧ v'.ownBlock = (Value.slice ag L.length cg).ownBlock) [_] F E117 rfl (by decide) (tidy61 (plusC c A m) L _ w (plusC_nn hc hm) (by omega) (Rd.own hO)) ?_
   rintro _ w24 a ⟨v5, rfl, hv5, hob⟩ B25 F
   have sB25 := B25.size
   have hB := bt hB B25
   have m4 := m4.old B25
   have hO := own_below hO B25
   have h1v := hv5.one
   refine s_putW F rfl rfl (size_wide wide36) m4 rfl (one2 h1v) fun w26 m4 o27 => ?_
   have so27 := o27.size
   have hB := hB.trans (o27.below (by omega))
   have hO := own_only hO o27 (fun e => by have := hat _ e; omega)
   have hv5 := rd_only hv5 o27 (fun h => by have := hat _ (hob.symm.trans h); omega)
   refine s_end (K15 _ _ ?_)
   rw [hfin] at m4 hv5
   refine wp_ret (res_cell F rfl rfl m4 wide36 ⟨_, rfl, ⟨v5, rfl, hv5, fun j h => (hO.lt j (hob.symm.trans h)).1⟩, hB⟩)
 ·
  have hpc : plusC c A m = min (c + m) 1099511627776 := by rw [plusC, if_pos (.inr hq.2)]; rfl
  refine wp_rs fun _ K16 => F.vl (x_fa0 fa36_1 rfl) fun a F => F.ld m2 flat29 rfl rfl fun a F => F.vl (x_len Try.underlying92 rfl) fun a F => F.vl (eqlF (by omega) rfl rfl) fun a F => F.mv rfl fun a F => s_grd 15 F rfl rfl rfl <| F.vl (x_fa0 fa36_0 rfl) fun a F => s_grd 15 F rfl rfl rfl <| F.ld m2 flat3 rfl rfl fun a F => s_grd 15 F rfl rfl rfl <| F.vl (gtrT (by omega) rfl rfl) fun a F => F.vl (x_pick (b := false) rfl rfl) fun a F => ?_
  refine s_end (K16 _ _ ?_)
  refine wp_if F rfl ?_
  refine wp_region_lit ?_
  refine F.vl (x_fa0 fa36_0 rfl) fun a F => F.ld m2 flat3 rfl rfl fun a F => F.mv rfl fun a F => F.vl (x_add (by omega) (by omega) rfl rfl) fun a F => F.vl (x_imin rfl rfl) fun a F => F.vl (x_fa0 fa36_0 rfl) fun a F => ?_
  refine s_put F rfl rfl flat3 m5 (by simp) rfl fun w28 m5 o29 => ?_
  have so29 := o29.size
  have hB := hB.trans (o29.below (by omega))
  have m2 := m2.only o29 (by omega)
  have m4 := m4.only o29 (by omega)
  refine s_end (K4 _ _ ?_)
  refine wp_seq_k fun _ K17 => ?_
  obtain ⟨bz, hbz⟩ : ∃ b, b = b5 := ⟨_, rfl⟩
  have hbb : w0.heap.size ≤ b4 ∧ b4 < b5 := ⟨by omega, by omega⟩
  refine wp_rs fun _ K18 => F.vl (x_fa0 fa36_1 rfl) fun a F => F.ld m2 flat29 rfl rfl fun a F => F.vl (x_len Try.underlying92 rfl) fun a F => F.mv rfl fun a F => ?_
  refine s_end (K18 _ _ ?_)
  refine wp_block ?_
  refine wp_up A.length (fun i a w => ∃ v' o', FA 94 w0.heap.size w b5 o' v' (plusC c A m) (plusK (A.take i) m) ∧ (o' = b5 ∨ bz < o') ∧ Blk w b4 94 [.int .i64 0, .slice none 0 0] ∧ Below w0.heap.size w0 w ∧ Fs 48 a [(29, .int .i64 (i : Int)), (28, .int .i64 (A.length : Int)), (27, .slice au A.length cu), (1, .int .i64 m), (4, .pointer (some ⟨b4, 0, none⟩)), (5, .pointer (some ⟨b5, 0, none⟩))]) ⟨_, b5, FA.start (by rw [hpc]; exact m5) (by omega), .inl rfl, m4, hB, F.sub _ rfl⟩ ?_
  clear F hB m4 m5
  rintro i a w hi ⟨vv, o2, hA, ho2, m4, hB, F⟩ K' hK'
  have sB := hB.size
  obtain ⟨L, hL⟩ : ∃ L, L = plusK (A.take i) m := ⟨_, rfl⟩
  rw [← hL] at hA
  have hLl : L.length = i := by rw [hL]; simp [plusK]; omega
  have mg := hA.blk
  have hO := hA.own
  have hat := hA.at'
  have hne := hA.ne
  have hlo := hA.lo
  have hgl := mg.lt
  obtain ⟨ag, cg, rfl, hcg⟩ := hA.form
  refine wp_rs fun _ K19 => F.vl (x_lss rfl rfl rfl) fun a F => ?_
  refine s_end (K19 _ _ ?_)
  refine wp_seq_k fun _ K20 => ?_
  refine wp_iff F rfl (fun hc30 => ?_) (fun hc30 => ?_)
  ·
   have hLAi := hLA.gt i
   have hHAi := hHA i
   obtain ⟨b6, off6, c6, hve, hrow1⟩ := rd_rowI hU (i := i) (by omega)
   cases hve
   refine wp_skip (K20 _ _ ?_)
   refine wp_seq_k fun _ K21 => ?_
   refine wp_block ?_
   refine wp_rs fun _ K22 => F.vl (x_ixa rfl rfl (m_ixs i Try.underlying92 el29.size rfl (by omega))) fun a F => F.vl (x_load rfl (m_load flat3 (hrow1 _ hB))) fun a F => F.sg rfl fun a F => ?_
   refine s_end (K22 _ _ ?_)
   refine wp_seq_k fun _ K23 => ?_
   refine wp_rs fun _ K24 => F.mv rfl fun a F => F.vl (x_geq rfl rfl rfl) fun a F => ?_
   refine s_end (K24 _ _ ?_)
   refine wp_iff F rfl (fun hc34 => ?_) (fun hc34 => ?_)
   ·
    skip
    refine wp_region_lit ?_
    refine F.mv rfl fun a F => F.mv rfl fun a F => F.vl (x_add (by omega) (by omega) rfl rfl) fun a F => F.vl (x_imin rfl rfl) fun a F => F.sg rfl fun a F => ?_
    refine s_end (K23 _ _ ?_)
    refine wp_region_lit ?_
    refine F.vl (x_fa0 fa36_1 rfl) fun a F => F.ld mg flat29 rfl rfl fun a F => F.vl (x_move (v := .int .i64 (if 0 ≤ gt A i then cut (gt A i + m) else gt A i)) (by rw [if_pos hc34]; rfl)) fun a F => ?_
    refine s_litG [.int .i64 ((if 0 ≤ gt A i then cut (gt A i + m) else gt A i))] el29 F (by decide) rfl (by simp [Value.cells]) rfl (by decide) (by decide) fun w30 bl a ebl ml B31 zbl F => ?_
    have sB31 := B31.size
    have hB := bt hB B31
    have m4 := m4.old B31
    have mg := mg.old B31
    have hO := own_below hO B31
    have ml : Blk w30 bl 3 [.int .i64 ((if 0 ≤ gt A i then cut (gt A i + m) else gt A i))] := by simpa [Value.cells] using ml
    refine s_app1 (o := o2) el29 F (by decide) rfl rfl hO ml rfl (by simp [Value.oneCell']) hat (by omega) (by omega) (by decide) (by omega) fun v3 w32 a o3 hOn hOatn how hsrc k33 hkeep F => ?_
    have sk33 := k33.size
    have hB := k33.under hB (by omega)
    have m4 := m4.k2 k33 (by omega)
    have mg := (hkeep _ mg.lt hne).trans mg
    have hO := hOn
    have hO_at := hOatn
    have hneg : v3.ownBlock ≠ some b5 := fun h => by rcases hsrc b5 h with h | h; exact hne h; omega
    refine F.vl (x_fa0 fa36_1 rfl) fun a F => ?_
    refine s_put F rfl rfl flat29 mg (by simp) (Rd.own hO).one fun w34 mg o35 => ?_
    have so35 := o35.size
    have hB := hB.trans (o35.below (by omega))
    have m4 := m4.only o35 (by omega)
    have hO := own_only hO o35 (hneg)
    refine s_end (K21 _ _ ?_)
    refine wp_region_lit ?_
    refine F.vl (x_addn (i + 1) (by omega) (by omega) rfl rfl) fun a F => F.mv rfl fun a F => ?_
    have hL2 : plusK (A.take (i + 1)) m = L ++ [(if 0 ≤ gt A i then cut (gt A i + m) else gt A i)] := by rw [hL, List.take_add_one, List.getElem?_eq_getElem (by omega), gt_lt (by omega)]; simp only [plusK, List.map_append]; rfl
    refine s_end (hK' _ _ (by omega) ⟨v3, o3, ⟨mg, by rw [hL2, ints_app]; simpa using hO, hO_at, hneg, by omega⟩, by omega, m4, hB, F.sub _ rfl⟩)
   ·
    skip
    refine wp_skip (K23 _ _ ?_)
    refine wp_region_lit ?_
    refine F.vl (x_fa0 fa36_1 rfl) fun a F => F.ld mg flat29 rfl rfl fun a F => F.vl (x_move (v := .int .i64 (if 0 ≤ gt A i then cut (gt A i + m) else gt A i)) (by rw [if_neg hc34]; rfl)) fun a F => ?_
    refine s_litG [.int .i64 ((if 0 ≤ gt A i then cut (gt A i + m) else gt A i))] el29 F (by decide) rfl (by simp [Value.cells]) rfl (by decide) (by decide) fun w36 bl a ebl ml B37 zbl F => ?_
    have sB37 := B37.size
    have hB := bt hB B37
    have m4 := m4.old B37
    have mg := mg.old B37
    have hO := own_below hO B37
    have ml : Blk w36 bl 3 [.int .i64 ((if 0 ≤ gt A i then cut (gt A i + m) else gt A i))] := by simpa [Value.cells] using ml
    refine s_app1 (o := o2) el29 F (by decide) rfl rfl hO ml rfl (by simp [Value.oneCell']) hat (by omega) (by omega) (by decide) (by omega) fun v3 w38 a o3 hOn hOatn how hsrc k39 hkeep F => ?_
    have sk39 := k39.size
    have hB := k39.under hB (by omega)
    have m4 := m4.k2 k39 (by omega)
    have mg := (hkeep _ mg.lt hne).trans mg
    have hO := hOn
    have hO_at := hOatn
    have hneg : v3.ownBlock ≠ some b5 := fun h => by rcases hsrc b5 h with h | h; exact hne h; omega
    refine F.vl (x_fa0 fa36_1 rfl) fun a F => ?_
    refine s_put F rfl rfl flat29 mg (by simp) (Rd.own hO).one fun w40 mg o41 => ?_
    have so41 := o41.size
    have hB := hB.trans (o41.below (by omega))
    have m4 := m4.only o41 (by omega)
    have hO := own_only hO o41 (hneg)
    refine s_end (K21 _ _ ?_)
    refine wp_region_lit ?_
    refine F.vl (x_addn (i + 1) (by omega) (by omega) rfl rfl) fun a F => F.mv rfl fun a F => ?_
    have hL2 : plusK (A.take (i + 1)) m = L ++ [(if 0 ≤ gt A i then cut (gt A i + m) else gt A i)] := by rw [hL, List.take_add_one, List.getElem?_eq_getElem (by omega), gt_lt (by omega)]; simp only [plusK, List.map_append]; rfl
    refine s_end (hK' _ _ (by omega) ⟨v3, o3, ⟨mg, by rw [hL2, ints_app]; simpa using hO, hO_at, hneg, by omega⟩, by omega, m4, hB, F.sub _ rfl⟩)
  ·
   have hiN : i = A.length := by omega
   have hfin : L = plusK A m := by rw [hL, hiN, List.take_length]
   refine wp_exit (K17 _ _ ?_)
   refine wp_rs fun _ K25 => F.vl (x_ldW wide36 mg rfl rfl) fun a F => ?_
   refine s_callR (R := fun u w' => ∃ v', u = .agg [.int .i64 (setl (plusC c A m) (tidyK L)), v'].toArray ∧ Rd w' v' 1 (tidyK L).length (ints (tidyK L)) ∧ v'.ownBlock = (Value.slice ag L.length cg).ownBlock) [_] F E117 rfl (by decide) (tidy61 (plusC c A m) L _ w (plusC_nn hc hm) (by omega) (Rd.own hO)) ?_
   rintro _ w42 a ⟨v5, rfl, hv5, hob⟩ B43 F
   have sB43 := B43.size
   have hB := bt hB B43
   have m4 := m4.old B43
   have hO := own_below hO B43
   have h1v := hv5.one
   refine s_putW F rfl rfl (size_wide wide36) m4 rfl (one2 h1v) fun w44 m4 o45 => ?_
   have so45 := o45.size
   have hB := hB.trans (o45.below (by omega))
   have hO := own_only hO o45 (fun e => by have := hat _ e; omega)
   have hv5 := rd_only hv5 o45 (fun h => by have := hat _ (hob.symm.trans h); omega)
   refine s_end (K25 _ _ ?_)
   rw [hfin] at m4 hv5
   refine wp_ret (res_cell F rfl rfl m4 wide36 ⟨_, rfl, ⟨v5, rfl, hv5, fun j h => (hO.lt j (hob.symm.trans h)).1⟩, hB⟩)
 ·
  have hpc : plusC c A m = c := by rw [plusC, if_neg]; rintro (h | h); exact hq.1 (by rw [h]; rfl); omega
  refine wp_rs fun _ K26 => F.vl (x_fa0 fa36_1 rfl) fun a F => F.ld m2 flat29 rfl rfl fun a F => F.vl (x_len Try.underlying92 rfl) fun a F => F.vl (eqlF (by omega) rfl rfl) fun a F => F.mv rfl fun a F => s_grd 15 F rfl rfl rfl <| F.vl (x_fa0 fa36_0 rfl) fun a F => s_grd 15 F rfl rfl rfl <| F.ld m2 flat3 rfl rfl fun a F => s_grd 15 F rfl rfl rfl <| F.vl (gtrF (by omega) rfl rfl) fun a F => F.vl (x_pick (b := false) rfl rfl) fun a F => ?_
  refine s_end (K26 _ _ ?_)
  refine wp_if F rfl ?_
  refine wp_skip (K4 _ _ ?_)
  refine wp_seq_k fun _ K27 => ?_
  obtain ⟨bz, hbz⟩ : ∃ b, b = b5 := ⟨_, rfl⟩
  have hbb : w0.heap.size ≤ b4 ∧ b4 < b5 := ⟨by omega, by omega⟩
  refine wp_rs fun _ K28 => F.vl (x_fa0 fa36_1 rfl) fun a F => F.ld m2 flat29 rfl rfl fun a F => F.vl (x_len Try.underlying92 rfl) fun a F => F.mv rfl fun a F => ?_
  refine s_end (K28 _ _ ?_)
  refine wp_block ?_
  refine wp_up A.length (fun i a w => ∃ v' o', FA 94 w0.heap.size w b5 o' v' (plusC c A m) (plusK (A.take i) m) ∧ (o' = b5 ∨ bz < o') ∧ Blk w b4 94 [.int .i64 0, .slice none 0 0] ∧ Below w0.heap.size w0 w ∧ Fs 48 a [(29, .int .i64 (i : Int)), (28, .int .i64 (A.length : Int)), (27, .slice au A.length cu), (1, .int .i64 m), (4, .pointer (some ⟨b4, 0, none⟩)), (5, .pointer (some ⟨b5, 0, none⟩))]) ⟨_, b5, FA.start (by rw [hpc]; exact m5) (by omega), .inl rfl, m4, hB, F.sub _ rfl⟩ ?_
  clear F hB m4 m5
  rintro i a w hi ⟨vv, o2, hA, ho2, m4, hB, F⟩ K' hK'
  have sB := hB.size
  obtain ⟨L, hL⟩ : ∃ L, L = plusK (A.take i) m := ⟨_, rfl⟩
  rw [← hL] at hA
  have hLl : L.length = i := by rw [hL]; simp [plusK]; omega
  have mg := hA.blk
  have hO := hA.own
  have hat := hA.at'
  have hne := hA.ne
  have hlo := hA.lo
  have hgl := mg.lt
  obtain ⟨ag, cg, rfl, hcg⟩ := hA.form
  refine wp_rs fun _ K29 => F.vl (x_lss rfl rfl rfl) fun a F => ?_
  refine s_end (K29 _ _ ?_)
  refine wp_seq_k fun _ K30 => ?_
  refine wp_iff F rfl (fun hc30 => ?_) (fun hc30 => ?_)
  ·
   have hLAi := hLA.gt i
   have hHAi := hHA i
   obtain ⟨b6, off6, c6, hve, hrow1⟩ := rd_rowI hU (i := i) (by omega)
   cases hve
   refine wp_skip (K30 _ _ ?_)
   refine wp_seq_k fun _ K31 => ?_
   refine wp_block ?_
   refine wp_rs fun _ K32 => F.vl (x_ixa rfl rfl (m_ixs i Try.underlying92 el29.size rfl (by omega))) fun a F => F.vl (x_load rfl (m_load flat3 (hrow1 _ hB))) fun a F => F.sg rfl fun a F => ?_
   refine s_end (K32 _ _ ?_)
   refine wp_seq_k fun _ K33 => ?_
   refine wp_rs fun _ K34 => F.mv rfl fun a F => F.vl (x_geq rfl rfl rfl) fun a F => ?_
   refine s_end (K34 _ _ ?_)
   refine wp_iff F rfl (fun hc34 => ?_) (fun hc34 => ?_)
   ·
    skip
    refine wp_region_lit ?_
    refine F.mv rfl fun a F => F.mv rfl fun a F => F.vl (x_add (by omega) (by omega) rfl rfl) fun a F => F.vl (x_imin rfl rfl) fun a F => F.sg rfl fun a F => ?_
    refine s_end (K33 _ _ ?_)
    refine wp_region_lit ?_
    refine F.vl (x_fa0 fa36_1 rfl) fun a F => F.ld mg flat29 rfl rfl fun a F => F.vl (x_move (v := .int .i64 (if 0 ≤ gt A i then cut (gt A i + m) else gt A i)) (by rw [if_pos hc34]; rfl)) fun a F => ?_
    refine s_litG [.int .i64 ((if 0 ≤ gt A i then cut (gt A i + m) else gt A i))] el29 F (by decide) rfl (by simp [Value.cells]) rfl (by decide) (by decide) fun w46 bl a ebl ml B47 zbl F => ?_
    have sB47 := B47.size
    have hB := bt hB B47
    have m4 := m4.old B47
    have mg := mg.old B47
    have hO := own_below hO B47
    have ml : Blk w46 bl 3 [.int .i64 ((if 0 ≤ gt A i then cut (gt A i + m) else gt A i))] := by simpa [Value.cells] using ml
    refine s_app1 (o := o2) el29 F (by decide) rfl rfl hO ml rfl (by simp [Value.oneCell']) hat (by omega) (by omega) (by decide) (by omega) fun v3 w48 a o3 hOn hOatn how hsrc k49 hkeep F => ?_
    have sk49 := k49.size
    have hB := k49.under hB (by omega)
    have m4 := m4.k2 k49 (by omega)
    have mg := (hkeep _ mg.lt hne).trans mg
    have hO := hOn
    have hO_at := hOatn
    have hneg : v3.ownBlock ≠ some b5 := fun h => by rcases hsrc b5 h with h | h; exact hne h; omega
    refine F.vl (x_fa0 fa36_1 rfl) fun a F => ?_
    refine s_put F rfl rfl flat29 mg (by simp) (Rd.own hO).one fun w50 mg o51 => ?_
    have so51 := o51.size
    have hB := hB.trans (o51.below (by omega))
    have m4 := m4.only o51 (by omega)
    have hO := own_only hO o51 (hneg)
    refine s_end (K31 _ _ ?_)
    refine wp_region_lit ?_
    refine F.vl (x_addn (i + 1) (by omega) (by omega) rfl rfl) fun a F => F.mv rfl fun a F => ?_
    have hL2 : plusK (A.take (i + 1)) m = L ++ [(if 0 ≤ gt A i then cut (gt A i + m) else gt A i)] := by rw [hL, List.take_add_one, List.getElem?_eq_getElem (by omega), gt_lt (by omega)]; simp only [plusK, List.map_append]; rfl
    refine s_end (hK' _ _ (by omega) ⟨v3, o3, ⟨mg, by rw [hL2, ints_app]; simpa using hO, hO_at, hneg, by omega⟩, by omega, m4, hB, F.sub _ rfl⟩)
   ·
    skip
    refine wp_skip (K33 _ _ ?_)
    refine wp_region_lit ?_
    refine F.vl (x_fa0 fa36_1 rfl) fun a F => F.ld mg flat29 rfl rfl fun a F => F.vl (x_move (v := .int .i64 (if 0 ≤ gt A i then cut (gt A i + m) else gt A i)) (by rw [if_neg hc34]; rfl)) fun a F => ?_
    refine s_litG [.int .i64 ((if 0 ≤ gt A i then cut (gt A i + m) else gt A i))] el29 F (by decide) rfl (by simp [Value.cells]) rfl (by decide) (by decide) fun w52 bl a ebl ml B53 zbl F => ?_
    have sB53 := B53.size
    have hB := bt hB B53
    have m4 := m4.old B53
    have mg := mg.old B53
    have hO := own_below hO B53
    have ml : Blk w52 bl 3 [.int .i64 ((if 0 ≤ gt A i then cut (gt A i + m) else gt A i))] := by simpa [Value.cells] using ml
    refine s_app1 (o := o2) el29 F (by decide) rfl rfl hO ml rfl (by simp [Value.oneCell']) hat (by omega) (by omega) (by decide) (by omega) fun v3 w54 a o3 hOn hOatn how hsrc k55 hkeep F => ?_
    have sk55 := k55.size
    have hB := k55.under hB (by omega)
    have m4 := m4.k2 k55 (by omega)
    have mg := (hkeep _ mg.lt hne).trans mg
    have hO := hOn
    have hO_at := hOatn
    have hneg : v3.ownBlock ≠ some b5 := fun h => by rcases hsrc b5 h with h | h; exact hne h; omega
    refine F.vl (x_fa0 fa36_1 rfl) fun a F => ?_
    refine s_put F rfl rfl flat29 mg (by simp) (Rd.own hO).one fun w56 mg o57 => ?_
    have so57 := o57.size
    have hB := hB.trans (o57.below (by omega))
    have m4 := m4.only o57 (by omega)
    have hO := own_only hO o57 (hneg)
    refine s_end (K31 _ _ ?_)
    refine wp_region_lit ?_
    refine F.vl (x_addn (i + 1) (by omega) (by omega) rfl rfl) fun a F => F.mv rfl fun a F => ?_
    have hL2 : plusK (A.take (i + 1)) m = L ++ [(if 0 ≤ gt A i then cut (gt A i + m) else gt A i)] := by rw [hL, List.take_add_one, List.getElem?_eq_getElem (by omega), gt_lt (by omega)]; simp only [plusK, List.map_append]; rfl
    refine s_end (hK' _ _ (by omega) ⟨v3, o3, ⟨mg, by rw [hL2, ints_app]; simpa using hO, hO_at, hneg, by omega⟩, by omega, m4, hB, F.sub _ rfl⟩)
  ·
   have hiN : i = A.length := by omega
   have hfin : L = plusK A m := by rw [hL, hiN, List.take_length]
   refine wp_exit (K27 _ _ ?_)
   refine wp_rs fun _ K35 => F.vl (x_ldW wide36 mg rfl rfl) fun a F => ?_
   refine s_callR (R := fun u w' => ∃ v', u = .agg [.int .i64 (setl (plusC c A m) (tidyK L)), v'].toArray ∧ Rd w' v' 1 (tidyK L).length (ints (tidyK L)) ∧ v'.ownBlock = (Value.slice ag L.length cg).ownBlock) [_] F E117 rfl (by decide) (tidy61 (plusC c A m) L _ w (plusC_nn hc hm) (by omega) (Rd.own hO)) ?_
   rintro _ w58 a ⟨v5, rfl, hv5, hob⟩ B59 F
   have sB59 := B59.size
   have hB := bt hB B59
   have m4 := m4.old B59
   have hO := own_below hO B59
   have h1v := hv5.one
   refine s_putW F rfl rfl (size_wide wide36) m4 rfl (one2 h1v) fun w60 m4 o61 => ?_
   have so61 := o61.size
   have hB := hB.trans (o61.below (by omega))
   have hO := own_only hO o61 (fun e => by have := hat _ e; omega)
   have hv5 := rd_only hv5 o61 (fun h => by have := hat _ (hob.symm.trans h); omega)
   refine s_end (K35 _ _ ?_)
   rw [hfin] at m4 hv5
   refine wp_ret (res_cell F rfl rfl m4 wide36 ⟨_, rfl, ⟨v5, rfl, hv5, fun j h => (hO.lt j (hob.symm.trans h)).1⟩, hB⟩)
end Go.Proofs.Ytbhhbfdoadecgaa

namespace Go.Proofs.Ytbhhbfdoadecgaa
set_option maxRecDepth 100000
set_option maxHeartbeats 1600000
open Go.RowKit Go.Shelf
set_option linter.unusedVariables false
set_option linter.unusedSimpArgs false
theorem rNorm20 : ∀ (s : SL) (x : C3) (w0 : World), RS w0 s x → s.nums 1099511627776 1001 → Calls Try.prog 70 #[lv x] w0 fun e w' => ∃ z, e = .returned z ∧ (∃ v', z = .agg [.int .i64 (nfC s), v'].toArray ∧ Rd w' v' 1 (nfK s).length (ints (nfK s)) ∧ ∀ j, v'.ownBlock = some j → w0.heap.size ≤ j) ∧ Below w0.heap.size w0 w' := by
 intro s
 induction s with
 | num p =>
  rintro ⟨k, n, vx⟩ w0 hS0 hnm
  have hB := Below.refl w0.heap.size w0
  have sB := hB.size
  obtain ⟨h1, h2, h3⟩ := hS0
  simp only at h1 h2
  subst h1 h2
  obtain ⟨hn1, hn2⟩ := nf_num p hnm
  refine calls_fs 51 [(0, .agg [.int .i64 1, .int .i64 (p : Int), vx].toArray)] Try.func70 rfl rfl rfl rfl rfl fun a F => ?_
  refine wp_rs fun _ K1 => ?_
  refine s_box ([.int .i64 1, .int .i64 (p : Int), vx]) F (by decide) rfl rfl fun w2 b1 a eb1 m1 B3 zb1 F => ?_
  have sB3 := B3.size
  have hB := bt hB B3
  refine s_alloc F (by decide) zero36 fun w4 b2 a eb2 m2 B5 zb2 F => ?_
  have sB5 := B5.size
  have hB := bt hB B5
  have m1 := m1.old B5
  refine s_end (K1 _ _ ?_)
  refine wp_seq_k fun _ K2 => ?_
  refine wp_rs fun _ K3 => F.vl (x_fa0 fa24_0 rfl) fun a F => F.ld m1 flat3 rfl rfl fun a F => ?_
  refine s_end (K3 _ _ ?_)
  refine wp_block ?_
  refine wp_rs fun _ K4 => F.vl (eqlT (by omega) rfl rfl) fun a F => F.sg rfl fun a F => ?_
  refine s_end (K4 _ _ ?_)
  refine wp_if F rfl ?_
  refine wp_rs fun _ K5 => F.vl (x_fa0 fa24_1 rfl) fun a F => F.ld m1 flat3 rfl rfl fun a F => F.vl (x_build (vs := [(0, _)]) rfl (b36_0 _ _)) fun a F => ?_
  refine s_putW F rfl rfl (size_wide wide36) m2 rfl (one2 rfl) fun w6 m2 o7 => ?_
  have so7 := o7.size
  have hB := hB.trans (o7.below (by omega))
  refine s_end (K5 _ _ ?_)
  refine wp_ret (inb_ret (then_ret (res_cell F rfl rfl m2 wide36 ⟨_, rfl, ⟨_, by rw [hn1], by rw [hn2]; exact Rd.nil _ _, fun j h => by cases h⟩, hB⟩)))
 | var p =>
  rintro ⟨k, n, vx⟩ w0 hS0 hnm
  have hB := Below.refl w0.heap.size w0
  have sB := hB.size
  obtain ⟨h1, h2, h3⟩ := hS0
  simp only at h1 h2
  subst h1 h2
  have hp : p < 1001 := hnm
  obtain ⟨hn1, hn2⟩ := nf_var p
  refine calls_fs 51 [(0, .agg [.int .i64 2, .int .i64 (p : Int), vx].toArray)] Try.func70 rfl rfl rfl rfl rfl fun a F => ?_
  refine wp_rs fun _ K1 => ?_
  refine s_box ([.int .i64 2, .int .i64 (p : Int), vx]) F (by decide) rfl rfl fun w2 b1 a eb1 m1 B3 zb1 F => ?_
  have sB3 := B3.size
  have hB := bt hB B3
  refine s_alloc F (by decide) zero36 fun w4 b2 a eb2 m2 B5 zb2 F => ?_
  have sB5 := B5.size
  have hB := bt hB B5
  have m1 := m1.old B5
  refine s_end (K1 _ _ ?_)
  refine wp_seq_k fun _ K2 => ?_
  refine wp_rs fun _ K3 => F.vl (x_fa0 fa24_0 rfl) fun a F => F.ld m1 flat3 rfl rfl fun a F => ?_
  refine s_end (K3 _ _ ?_)
  refine wp_block ?_
  refine wp_rs fun _ K4 => F.vl (eqlF (by omega) rfl rfl) fun a F => F.sg rfl fun a F => ?_
  refine s_end (K4 _ _ ?_)
  refine wp_if F rfl ?_
  refine wp_rs fun _ K5 => F.vl (eqlT (by omega) rfl rfl) fun a F => F.sg rfl fun a F => ?_
  refine s_end (K5 _ _ ?_)
  refine wp_if F rfl ?_
  refine wp_rs fun _ K6 => F.vl (x_build (vs := []) rfl (b36_ _)) fun a F => ?_
  refine s_alloc F (by decide) zero36 fun w6 b3 a eb3 m3 B7 zb3 F => ?_
  have sB7 := B7.size
  have hB := bt hB B7
  have m1 := m1.old B7
  have m2 := m2.old B7
  refine s_putW F rfl rfl (size_wide wide36) m3 rfl (one2 rfl) fun w8 m3 o9 => ?_
  have so9 := o9.size
  have hB := hB.trans (o9.below (by omega))
  have m1 := m1.only o9 (by omega)
  have m2 := m2.only o9 (by omega)
  refine s_end (K6 _ _ ?_)
  refine wp_seq_k fun _ K7 => ?_
  obtain ⟨bz, hbz⟩ : ∃ b, b = b3 := ⟨_, rfl⟩
  have hbb : w0.heap.size ≤ b2 ∧ b2 < b3 := ⟨by omega, by omega⟩
  refine wp_rs fun _ K8 => F.vl (x_fa0 fa24_1 rfl) fun a F => F.ld m1 flat3 rfl rfl fun a F => F.mv rfl fun a F => ?_
  refine s_end (K8 _ _ ?_)
  refine wp_block ?_
  refine wp_up p (fun i a w => ∃ v' o', FA 94 w0.heap.size w b3 o' v' 0 (List.replicate i (-1)) ∧ (o' = b3 ∨ bz < o') ∧ Blk w b2 94 [.int .i64 0, .slice none 0 0] ∧ Below w0.heap.size w0 w ∧ Fs 51 a [(16, .int .i64 (i : Int)), (15, .int .i64 (p : Int)), (2, .pointer (some ⟨b2, 0, none⟩)), (3, .pointer (some ⟨b3, 0, none⟩))]) ⟨_, b3, FA.start m3 (by omega), .inl rfl, m2, hB, F.sub _ rfl⟩ ?_
  clear F hB m2 m3
  rintro i a w hi ⟨vv, o2, hA, ho2, m2, hB, F⟩ K' hK'
  have sB := hB.size
  obtain ⟨L, hL⟩ : ∃ L, L = List.replicate i (-1 : Int) := ⟨_, rfl⟩
  rw [← hL] at hA
  have hLl : L.length = i := by rw [hL]; simp
  have mg := hA.blk
  have hO := hA.own
  have hat := hA.at'
  have hne := hA.ne
  have hlo := hA.lo
  have hgl := mg.lt
  obtain ⟨ag, cg, rfl, hcg⟩ := hA.form
  refine wp_rs fun _ K9 => F.vl (x_lss (b := decide (i < p)) (decide_eq_decide.2 (by omega)) rfl rfl) fun a F => ?_
  refine s_end (K9 _ _ ?_)
  refine wp_seq_k fun _ K10 => ?_
  refine wp_iff F rfl (fun hc17 => ?_) (fun hc17 => ?_)
  ·
   refine wp_skip (K10 _ _ ?_)
   refine wp_seq_k fun _ K11 => ?_
   refine wp_block ?_
   refine wp_region_lit ?_
   refine F.vl (x_fa0 fa36_1 rfl) fun a F => F.ld mg flat29 rfl rfl fun a F => ?_
   refine s_litG [.int .i64 (-1)] el29 F (by decide) rfl (by simp [Value.cells]) rfl (by decide) (by decide) fun w10 bl a ebl ml B11 zbl F => ?_
   have sB11 := B11.size
   have hB := bt hB B11
   have m2 := m2.old B11
   have mg := mg.old B11
   have hO := own_below hO B11
   have ml : Blk w10 bl 3 [.int .i64 (-1)] := by simpa [Value.cells] using ml
   refine s_app1 (o := o2) el29 F (by decide) rfl rfl hO ml rfl (by simp [Value.oneCell']) hat (by omega) (by omega) (by decide) (by omega) fun v3 w12 a o3 hOn hOatn how hsrc k13 hkeep F => ?_
   have sk13 := k13.size
   have hB := k13.under hB (by omega)
   have m2 := m2.k2 k13 (by omega)
   have mg := (hkeep _ mg.lt hne).trans mg
   have hO := hOn
   have hO_at := hOatn
   have hneg : v3.ownBlock ≠ some b3 := fun h => by rcases hsrc b3 h with h | h; exact hne h; omega
   refine F.vl (x_fa0 fa36_1 rfl) fun a F => ?_
   refine s_put F rfl rfl flat29 mg (by simp) (Rd.own hO).one fun w14 mg o15 => ?_
   have so15 := o15.size
   have hB := hB.trans (o15.below (by omega))
   have m2 := m2.only o15 (by omega)
   have hO := own_only hO o15 (hneg)
   refine s_end (K11 _ _ ?_)
   refine wp_region_lit ?_
   refine F.vl (x_addn (i + 1) (by omega) (by omega) rfl rfl) fun a F => F.mv rfl fun a F => ?_
   have hL2 : List.replicate (i + 1) (-1 : Int) = L ++ [-1] := by rw [hL, List.replicate_succ']
   refine s_end (hK' _ _ (by omega) ⟨v3, o3, ⟨mg, by rw [hL2, ints_app]; simpa using hO, hO_at, hneg, by omega⟩, by omega, m2, hB, F.sub _ rfl⟩)
  ·
   have hip : i = p := by omega
   refine wp_exit (K7 _ _ ?_)
   refine wp_rs fun _ K12 => F.vl (x_fa0 fa36_1 rfl) fun a F => F.ld mg flat29 rfl rfl fun a F => ?_
   refine s_litG [.int .i64 (0)] el29 F (by decide) rfl (by simp [Value.cells]) rfl (by decide) (by decide) fun w16 bl a ebl ml B17 zbl F => ?_
   have sB17 := B17.size
   have hB := bt hB B17
   have m2 := m2.old B17
   have mg := mg.old B17
   have hO := own_below hO B17
   have ml : Blk w16 bl 3 [.int .i64 (0)] := by simpa [Value.cells] using ml
   refine s_app1 (o := o2) el29 F (by decide) rfl rfl hO ml rfl (by simp [Value.oneCell']) hat (by omega) (by omega) (by decide) (by omega) fun v3 w18 a o3 hOn hOatn how hsrc k19 hkeep F => ?_
   have sk19 := k19.size
   have hB := k19.under hB (by omega)
   have m2 := m2.k2 k19 (by omega)
   have mg := (hkeep _ mg.lt hne).trans mg
   have hO := hOn
   have hO_at := hOatn
   have hneg : v3.ownBlock ≠ some b3 := fun h => by rcases hsrc b3 h with h | h; exact hne h; omega
   refine F.vl (x_fa0 fa36_1 rfl) fun a F => ?_
   refine s_put F rfl rfl flat29 mg (by simp) (Rd.own hO).one fun w20 mg o21 => ?_
   have so21 := o21.size
   have hB := hB.trans (o21.below (by omega))
   have m2 := m2.only o21 (by omega)
   have hO := own_only hO o21 (hneg)
   refine s_end (K12 _ _ ?_)
   refine wp_rs fun _ K13 => F.vl (x_ldW wide36 mg rfl rfl) fun a F => ?_
   refine s_putW F rfl rfl (size_wide wide36) m2 rfl (one2 (Rd.own hO).one) fun w22 m2 o23 => ?_
   have so23 := o23.size
   have hB := hB.trans (o23.below (by omega))
   have hO := own_only hO o23 (fun e => by have := hO_at _ e; omega)
   refine s_end (K13 _ _ ?_)
   have hfin : nfK (.var p) = L ++ [0] := by rw [hn2, hL, hip]
   refine wp_ret (inb_ret (then_ret (res_cell F rfl rfl m2 wide36 ⟨_, rfl, ⟨v3, by rw [hn1]; rfl, by rw [hfin, ints_app]; simpa using Rd.own hO, fun j h => (hO.lt j h).1⟩, hB⟩)))
 | succ p sa iha =>
  rintro ⟨k, n, vx⟩ w0 hS0 hnm
  have hB := Below.refl w0.heap.size w0
  have sB := hB.size
  obtain ⟨h1, h2, y, h3, hy⟩ := hS0
  simp only at h1 h2 h3
  subst h1 h2
  have hp1 := hnm.1
  have hp2 := hnm.2.1
  obtain ⟨b, off, cp, rfl, hrow⟩ := rd_row1 h3
  refine calls_fs 51 [(0, .agg [.int .i64 3, .int .i64 (p : Int), .slice (some ⟨b, off, none⟩) 1 cp].toArray)] Try.func70 rfl rfl rfl rfl rfl fun a F => ?_
  refine wp_rs fun _ K1 => ?_
  refine s_box ([.int .i64 3, .int .i64 (p : Int), .slice (some ⟨b, off, none⟩) 1 cp]) F (by decide) rfl rfl fun w2 b1 a eb1 m1 B3 zb1 F => ?_
  have sB3 := B3.size
  have hB := bt hB B3
  refine s_alloc F (by decide) zero36 fun w4 b2 a eb2 m2 B5 zb2 F => ?_
  have sB5 := B5.size
  have hB := bt hB B5
  have m1 := m1.old B5
  refine s_end (K1 _ _ ?_)
  refine wp_seq_k fun _ K2 => ?_
  refine wp_rs fun _ K3 => F.vl (x_fa0 fa24_0 rfl) fun a F => F.ld m1 flat3 rfl rfl fun a F => ?_
  refine s_end (K3 _ _ ?_)
  refine wp_block ?_
  refine wp_rs fun _ K4 => F.vl (eqlF (by omega) rfl rfl) fun a F => F.sg rfl fun a F => ?_
  refine s_end (K4 _ _ ?_)
  refine wp_if F rfl ?_
  refine wp_rs fun _ K5 => F.vl (eqlF (by omega) rfl rfl) fun a F => F.sg rfl fun a F => ?_
  refine s_end (K5 _ _ ?_)
  refine wp_if F rfl ?_
  refine wp_rs fun _ K6 => F.vl (eqlT (by omega) rfl rfl) fun a F => F.sg rfl fun a F => ?_
  refine s_end (K6 _ _ ?_)
  refine wp_if F rfl ?_
  refine dk2_seq (b2) (b2) (ops := regOps Try.f70 13) (N := 9) (by kernel_rfl) wide_orders (by kernel_rfl) fun w6 hw6 B7 hS K7 K7 => ?_
  have zw6 : w6.heap.size = w4.heap.size := by rw [hw6]
  have sB7 := B7.size
  have hB := bt hB B7
  have m1 := m1.old B7
  have m2 := m2.old B7
  have m1_d := m1
  have m2_d := m2
  have hB_d := hB
  refine F.dv 0 32 (.fieldAddr 24 (.tmp 1) 2) hS (fun W hW => x_fa0 fa24_2 rfl) fun a F => F.dv 1 33 (.load 22 (.tmp 32)) hS (fun W hW => x_load rfl (m_load flat22 ((m1_d.k2 hW (by omega)).cell (j := 2) rfl))) fun a F => F.dv 2 34 (.indexAddr 22 (.tmp 33) (.const (.int .i64 0))) hS (fun W hW => x_ixa rfl rfl (m_ixsK 0 Try.underlying22 el22.size rfl (by omega))) fun a F => F.dv 3 35 (.load 24 (.tmp 34)) hS (fun W hW => x_ldA wide24 (hrow _ (hW.under hB_d (by omega))) rfl rfl) fun a F => F.dv 5 37 (.fieldAddr 24 (.tmp 1) 1) hS (fun W hW => x_fa0 fa24_1 rfl) fun a F => F.dv 6 38 (.load 3 (.tmp 37)) hS (fun W hW => x_load rfl (m_load flat3 ((m1_d.k2 hW (by omega)).cell (j := 1) rfl))) fun a F => ?_
  refine d1 4 (some 36) (.call (.mk (.value (.func 70)) #[(.tmp 35)] #[24])) fun ty pos af => ?_
  refine s_callR (R := fun u w' => ∃ v', u = .agg [.int .i64 (nfC sa), v'].toArray ∧ Rd w' v' 1 (nfK sa).length (ints (nfK sa)) ∧ ∀ j, v'.ownBlock = some j → w6.heap.size ≤ j) [_] F E70 rfl (by decide) (iha _ w6 (RS.below hB hy) hnm.2.2) ?_
  rintro _ w8 a ⟨v1, rfl, hv1, hy1⟩ B9 F
  have sB9 := B9.size
  have hB := bt hB B9
  have m2 := m2.old B9
  have hS := hS.below B9
  have h1v1 := hv1.one
  refine s_end ⟨hS, ?_⟩
  refine d1 7 (some 39) (.call (.mk (.value (.func 72)) #[(.tmp 36), (.tmp 38)] #[94, 3])) fun ty pos af => ?_
  refine s_callR (R := fun u w' => ∃ v', u = .agg [.int .i64 (setl (plusC (nfC sa) (nfK sa) p) (tidyK (plusK (nfK sa) p))), v'].toArray ∧ Rd w' v' 1 (tidyK (plusK (nfK sa) p)).length (ints (tidyK (plusK (nfK sa) p))) ∧ ∀ j, v'.ownBlock = some j → w8.heap.size ≤ j) [_, _] F E72 rfl (by decide) (plus42 (nfC sa) (nfK sa) _ p w8 (nfC_nn sa) (nfC_le sa) (by omega) (by omega) (by have := rk_len sa 0 [] 1001 hnm.2.2 (by simp); unfold nfK; omega) (nfK_lo sa) (nfK_hi sa) hv1) ?_
  rintro _ w10 a ⟨v3, rfl, hv3, hy3⟩ B11 F
  have sB11 := B11.size
  have hB := bt hB B11
  have m2 := m2.old B11
  have hS := hS.below B11
  rw [plusK_is] at hv3 F
  rw [plusC_is] at F
  have h1v3 := hv3.one
  refine s_end ⟨hS, ?_⟩
  refine d1 8 none (.store 94 (.tmp 2) (.tmp 39)) fun ty pos af => ?_
  refine s_putW F rfl rfl (size_wide wide36) m2 rfl (one2 h1v3) fun w12 m2 o13 => ?_
  have so13 := o13.size
  have hB := hB.trans (o13.below (by omega))
  have hv3 := rd_only hv3 o13 (fun h => by have := hy3 _ h; omega)
  have hS := hS.only o13 (by omega)
  refine s_end ⟨hS, ?_⟩
  refine d_end (by kernel_rfl) (K7 _ _ ?_)
  refine wp_ret (inb_ret (then_ret (res_cell F rfl rfl m2 wide36 ⟨_, rfl, ⟨v3, rfl, hv3, fun j h => by have := hy3 j h; omega⟩, hB⟩)))
 | mx sa sb iha ihb =>
  rintro ⟨k, n, vx⟩ w0 hS0 hnm
  have hB := Below.refl w0.heap.size w0
  have sB := hB.size
  obtain ⟨h1, y, z, h3, hy, hz⟩ := hS0
  simp only at h1 h3
  subst h1
  obtain ⟨b, off, cp, rfl, hrow1, hrow2⟩ := rd_row2 h3
  refine calls_fs 51 [(0, .agg [.int .i64 4, .int .i64 n, .slice (some ⟨b, off, none⟩) 2 cp].toArray)] Try.func70 rfl rfl rfl rfl rfl fun a F => ?_
  refine wp_rs fun _ K1 => ?_
  refine s_box ([.int .i64 4, .int .i64 n, .slice (some ⟨b, off, none⟩) 2 cp]) F (by decide) rfl rfl fun w2 b1 a eb1 m1 B3 zb1 F => ?_
  have sB3 := B3.size
  have hB := bt hB B3
  refine s_alloc F (by decide) zero36 fun w4 b2 a eb2 m2 B5 zb2 F => ?_
  have sB5 := B5.size
  have hB := bt hB B5
  have m1 := m1.old B5
  refine s_end (K1 _ _ ?_)
  refine wp_seq_k fun _ K2 => ?_
  refine wp_rs fun _ K3 => F.vl (x_fa0 fa24_0 rfl) fun a F => F.ld m1 flat3 rfl rfl fun a F => ?_
  refine s_end (K3 _ _ ?_)
  refine wp_block ?_
  refine wp_rs fun _ K4 => F.vl (eqlF (by omega) rfl rfl) fun a F => F.sg rfl fun a F => ?_
  refine s_end (K4 _ _ ?_)
  refine wp_if F rfl ?_
  refine wp_rs fun _ K5 => F.vl (eqlF (by omega) rfl rfl) fun a F => F.sg rfl fun a F => ?_
  refine s_end (K5 _ _ ?_)
  refine wp_if F rfl ?_
  refine wp_rs fun _ K6 => F.vl (eqlF (by omega) rfl rfl) fun a F => F.sg rfl fun a F => ?_
  refine s_end (K6 _ _ ?_)
  refine wp_if F rfl ?_
  refine wp_skip (K2 _ _ ?_)
  refine dk2_seq (b2) (b2) (ops := regOps Try.f70 14) (N := 12) (by kernel_rfl) wide_orders (by kernel_rfl) fun w6 hw6 B7 hS K7 K7 => ?_
  have zw6 : w6.heap.size = w4.heap.size := by rw [hw6]
  have sB7 := B7.size
  have hB := bt hB B7
  have m1 := m1.old B7
  have m2 := m2.old B7
  have m1_d := m1
  have m2_d := m2
  have hB_d := hB
  refine F.dv 0 40 (.fieldAddr 24 (.tmp 1) 2) hS (fun W hW => x_fa0 fa24_2 rfl) fun a F => F.dv 1 41 (.load 22 (.tmp 40)) hS (fun W hW => x_load rfl (m_load flat22 ((m1_d.k2 hW (by omega)).cell (j := 2) rfl))) fun a F => F.dv 2 42 (.indexAddr 22 (.tmp 41) (.const (.int .i64 0))) hS (fun W hW => x_ixa rfl rfl (m_ixsK 0 Try.underlying22 el22.size rfl (by omega))) fun a F => F.dv 3 43 (.load 24 (.tmp 42)) hS (fun W hW => x_ldA wide24 (hrow1 _ (hW.under hB_d (by omega))) rfl rfl) fun a F => F.dv 5 45 (.fieldAddr 24 (.tmp 1) 2) hS (fun W hW => x_fa0 fa24_2 rfl) fun a F => F.dv 6 46 (.load 22 (.tmp 45)) hS (fun W hW => x_load rfl (m_load flat22 ((m1_d.k2 hW (by omega)).cell (j := 2) rfl))) fun a F => F.dv 7 47 (.indexAddr 22 (.tmp 46) (.const (.int .i64 1))) hS (fun W hW => x_ixa rfl rfl (m_ixsK 1 Try.underlying22 el22.size rfl (by omega))) fun a F => F.dv 8 48 (.load 24 (.tmp 47)) hS (fun W hW => x_ldA wide24 (hrow2 _ (hW.under hB_d (by omega))) rfl rfl) fun a F => ?_
  refine d1 4 (some 44) (.call (.mk (.value (.func 70)) #[(.tmp 43)] #[24])) fun ty pos af => ?_
  refine s_callR (R := fun u w' => ∃ v', u = .agg [.int .i64 (nfC sa), v'].toArray ∧ Rd w' v' 1 (nfK sa).length (ints (nfK sa)) ∧ ∀ j, v'.ownBlock = some j → w6.heap.size ≤ j) [_] F E70 rfl (by decide) (iha _ w6 (RS.below hB hy) hnm.1) ?_
  rintro _ w8 a ⟨v1, rfl, hv1, hy1⟩ B9 F
  have sB9 := B9.size
  have hB := bt hB B9
  have m2 := m2.old B9
  have hS := hS.below B9
  have h1v1 := hv1.one
  refine s_end ⟨hS, ?_⟩
  refine d1 9 (some 49) (.call (.mk (.value (.func 70)) #[(.tmp 48)] #[24])) fun ty pos af => ?_
  refine s_callR (R := fun u w' => ∃ v', u = .agg [.int .i64 (nfC sb), v'].toArray ∧ Rd w' v' 1 (nfK sb).length (ints (nfK sb)) ∧ ∀ j, v'.ownBlock = some j → w8.heap.size ≤ j) [_] F E70 rfl (by decide) (ihb _ w8 (RS.below hB hz) hnm.2) ?_
  rintro _ w10 a ⟨v2, rfl, hv2, hy2⟩ B11 F
  have sB11 := B11.size
  have hB := bt hB B11
  have m2 := m2.old B11
  have hv1 := hv1.below B11
  have hS := hS.below B11
  have h1v2 := hv2.one
  refine s_end ⟨hS, ?_⟩
  refine d1 10 (some 50) (.call (.mk (.value (.func 71)) #[(.tmp 44), (.tmp 49)] #[94, 94])) fun ty pos af => ?_
  refine s_callR (R := fun u w' => ∃ v', u = .agg [.int .i64 (setl (max (nfC sa) (nfC sb)) (tidyK (bothK (nfK sa) (nfK sb)))), v'].toArray ∧ Rd w' v' 1 (tidyK (bothK (nfK sa) (nfK sb))).length (ints (tidyK (bothK (nfK sa) (nfK sb)))) ∧ ∀ j, v'.ownBlock = some j → w10.heap.size ≤ j) [_, _] F E71 rfl (by decide) (both43 (nfC sa) (nfC sb) (nfK sa) (nfK sb) _ _ w10 (nfC_nn sa) (nfC_nn sb) (by have := rk_len sa 0 [] 1001 hnm.1 (by simp); unfold nfK; omega) (by have := rk_len sb 0 [] 1001 hnm.2 (by simp); unfold nfK; omega) (nfK_lo sa) (nfK_lo sb) hv1 hv2) ?_
  rintro _ w12 a ⟨v3, rfl, hv3, hy3⟩ B13 F
  have sB13 := B13.size
  have hB := bt hB B13
  have m2 := m2.old B13
  have hS := hS.below B13
  rw [bothK_is] at hv3 F
  rw [← nfC_mx] at F
  have h1v3 := hv3.one
  refine s_end ⟨hS, ?_⟩
  refine d1 11 none (.store 94 (.tmp 2) (.tmp 50)) fun ty pos af => ?_
  refine s_putW F rfl rfl (size_wide wide36) m2 rfl (one2 h1v3) fun w14 m2 o15 => ?_
  have so15 := o15.size
  have hB := hB.trans (o15.below (by omega))
  have hv3 := rd_only hv3 o15 (fun h => by have := hy3 _ h; omega)
  have hS := hS.only o15 (by omega)
  refine s_end ⟨hS, ?_⟩
  refine d_end (by kernel_rfl) (K7 _ _ ?_)
  refine wp_ret (res_cell F rfl rfl m2 wide36 ⟨_, rfl, ⟨v3, rfl, hv3, fun j h => by have := hy3 j h; omega⟩, hB⟩)
end Go.Proofs.Ytbhhbfdoadecgaa

namespace Go.Proofs.Ytbhhbfdoadecgaa
set_option maxRecDepth 100000
set_option maxHeartbeats 1600000
open Go.RowKit Go.Shelf
set_option linter.unusedVariables false
set_option linter.unusedSimpArgs false
theorem join52n (A : Nat → Prop) (s t : SL) (x y : C3) (w0 : World) (hx : RSn w0 A s x) (hy : RSn w0 A t y) : Calls Try.prog 141 #[lv x, lv y] w0 fun e w' => ∃ v, e = .returned v ∧ (∃ z, v = lv z ∧ RSn w' (fun k => A k ∨ w0.heap.size ≤ k) (.mx s t) z) ∧ Below w0.heap.size w0 w' := by
 have hB := Below.refl w0.heap.size w0
 have sB := hB.size
 refine calls_fs 9 [(0, lv x), (1, lv y)] Try.func141 rfl rfl rfl rfl rfl fun a F => ?_
 refine wp_rs fun _ K1 => ?_
 refine s_box (lc x) F (by decide) rfl rfl fun w2 b2 a eb2 m2 B3 zb2 F => ?_
 have sB3 := B3.size
 have hB := bt hB B3
 refine s_box (lc y) F (by decide) rfl rfl fun w4 b3 a eb3 m3 B5 zb3 F => ?_
 have sB5 := B5.size
 have hB := bt hB B5
 have m2 := m2.old B5
 refine s_alloc F (by decide) zero24 fun w6 b4 a eb4 m4 B7 zb4 F => ?_
 have sB7 := B7.size
 have hB := bt hB B7
 have m2 := m2.old B7
 have m3 := m3.old B7
 refine s_end (K1 _ _ ?_)
 refine wp_rs fun _ K2 => F.vl (x_ldW wide24 m2 rfl rfl) fun a F => F.vl (x_ldW wide24 m3 rfl rfl) fun a F => ?_
 refine s_litG [lv x, lv y] el22 F (by decide) rfl (by simp [Value.cells, lc]) rfl (by decide) (by decide) fun w8 bl a ebl ml B9 zbl F => ?_
 have sB9 := B9.size
 have hB := bt hB B9
 have m4 := m4.old B9
 refine F.vl (x_build (vs := [(0, _), (2, _)]) rfl (b24_02 _ _ _ _ _)) fun a F => ?_
 refine s_putW F rfl rfl (size_wide wide24) m4 rfl (one3 rfl) fun w10 m4 o11 => ?_
 have so11 := o11.size
 have hB := hB.trans (o11.below (by omega))
 have ml := ml.only o11 (by omega)
 refine s_end (K2 _ _ ?_)
 refine wp_ret (res_cell F rfl rfl m4 wide24 ⟨_, rfl, ⟨(4, 0, .slice (some ⟨bl, 0, none⟩) 2 2), rfl, rfl, x, y, Rd.blk (k := 3) (by simpa [Value.cells] using ml) (by simp [lc]), fun j h => .inr (by cases h; show _ ≤ bl; omega), (hx.below hB).mono fun _ h => .inl h, (hy.below hB).mono fun _ h => .inl h⟩, hB⟩)
theorem succ55n (A : Nat → Prop) (m : Nat) (s : SL) (x : C3) (w0 : World) (hx : RSn w0 A s x) : Calls Try.prog 156 #[.int .i64 (m : Int), lv x] w0 fun e w' => ∃ v, e = .returned v ∧ (∃ z, v = lv z ∧ RSn w' (fun k => A k ∨ w0.heap.size ≤ k) (.succ m s) z) ∧ Below w0.heap.size w0 w' := by
 have hB := Below.refl w0.heap.size w0
 have sB := hB.size
 refine calls_fs 9 [(0, .int .i64 (m : Int)), (1, lv x)] Try.func156 rfl rfl rfl rfl rfl fun a F => ?_
 refine wp_rs fun _ K1 => ?_
 refine s_box (lc x) F (by decide) rfl rfl fun w2 b3 a eb3 m3 B3 zb3 F => ?_
 have sB3 := B3.size
 have hB := bt hB B3
 refine s_alloc F (by decide) zero24 fun w4 b4 a eb4 m4 B5 zb4 F => ?_
 have sB5 := B5.size
 have hB := bt hB B5
 have m3 := m3.old B5
 refine s_end (K1 _ _ ?_)
 refine wp_rs fun _ K2 => F.mv rfl fun a F => F.vl (x_ldW wide24 m3 rfl rfl) fun a F => ?_
 refine s_litG [lv x] el22 F (by decide) rfl (by simp [Value.cells, lc]) rfl (by decide) (by decide) fun w6 bl a ebl ml B7 zbl F => ?_
 have sB7 := B7.size
 have hB := bt hB B7
 have m4 := m4.old B7
 refine F.vl (x_build (vs := [(0, _), (1, _), (2, _)]) rfl (b24_012 _ _ _ _ _ _)) fun a F => ?_
 refine s_putW F rfl rfl (size_wide wide24) m4 rfl (one3 rfl) fun w8 m4 o9 => ?_
 have so9 := o9.size
 have hB := hB.trans (o9.below (by omega))
 have ml := ml.only o9 (by omega)
 refine s_end (K2 _ _ ?_)
 refine wp_ret (res_cell F rfl rfl m4 wide24 ⟨_, rfl, ⟨(3, (m : Int), .slice (some ⟨bl, 0, none⟩) 1 1), rfl, rfl, rfl, x, Rd.blk (k := 3) (by simpa [Value.cells] using ml) (by simp [lc]), fun j h => .inr (by cases h; show _ ≤ bl; omega), (hx.below hB).mono fun _ h => .inl h⟩, hB⟩)
theorem parts60 (c : Int) (ks : List Int) (v : Value) (w0 : World) (hc : 0 ≤ c) (hl : ks.length ≤ 1001) (hLo : Lo ks) (hV : Rd w0 v 1 ks.length (ints ks)) : Calls Try.prog 140 #[.agg [.int .i64 c, v].toArray] w0 fun e w' => ∃ u, e = .returned u ∧ (∃ zs, Rd w' u 3 zs.length (zs.flatMap lc) ∧ PL w' (fun k => w0.heap.size ≤ k) zs (pts c ks ks.length)) ∧ Below w0.heap.size w0 w' := by
 obtain ⟨av, cv, rfl, _⟩ := hV.form
 have hB := Below.refl w0.heap.size w0
 have sB := hB.size
 refine calls_fs 49 [(0, .agg [.int .i64 c, .slice av ks.length cv].toArray)] Try.func140 rfl rfl rfl rfl rfl fun a F => ?_
 refine wp_rs fun _ K1 => ?_
 refine s_box ([.int .i64 c, .slice av ks.length cv]) F (by decide) rfl rfl fun w2 b1 a eb1 m1 B3 zb1 F => ?_
 have sB3 := B3.size
 have hB := bt hB B3
 refine F.sg rfl fun a F => ?_
 refine s_end (K1 _ _ ?_)
 refine wp_rs fun _ K2 => F.sg rfl fun a F => ?_
 refine s_end (K2 _ _ ?_)
 refine wp_seq_k fun _ K3 => ?_
 rcases (show c ≠ 0 ∨ (c = 0 ∧ ks.length = 0) ∨ (c = 0 ∧ ks.length ≠ 0) by omega) with hq | hq | hq
 ·
  have hp0 : pts c ks 0 = [.num c.toNat] := by rw [pts, if_pos (.inl hq)]
  refine wp_rs fun _ K5 => F.vl (x_fa0 fa59_0 rfl) fun a F => F.ld m1 flat3 rfl rfl fun a F => F.vl (neqT (by omega) rfl rfl) fun a F => F.mv rfl fun a F => s_grdn 9 F rfl rfl (by decide) fun a F => s_grdn 9 F rfl rfl (by decide) fun a F => s_grdn 9 F rfl rfl (by decide) fun a F => s_grdn 9 F rfl rfl (by decide) fun a F => F.vl (x_pick (b := true) rfl rfl) fun a F => ?_
  refine s_end (K5 _ _ ?_)
  refine wp_if F rfl ?_
  refine wp_region_lit ?_
  refine F.mv rfl fun a F => F.vl (x_fa0 fa59_0 rfl) fun a F => F.ld m1 flat3 rfl rfl fun a F => ?_
  refine s_callB [_] F E154 rfl (by decide) (num36 c w2) fun w4 a B5 F => ?_
  have sB5 := B5.size
  have hB := bt hB B5
  have m1 := m1.old B5
  refine s_litG [lv (1, c, .slice none 0 0)] el22 F (by decide) rfl (by simp [Value.cells, lc]) rfl (by decide) (by decide) fun w6 bl a ebl ml B7 zbl F => ?_
  have sB7 := B7.size
  have hB := bt hB B7
  have m1 := m1.old B7
  have ml : Blk w6 bl 24 (lc (1, c, .slice none 0 0)) := by simpa [Value.cells] using ml
  have hO : w6.ownsRow w0.heap.size 24 3 (.slice none 0 0) 0 [] := World.ownsRow_nil _ _ _ _
  have hat : ∀ j, (Value.slice none 0 0).ownBlock = some j → j = b1 := fun j h => by cases h
  have hne : (Value.slice none 0 0).ownBlock ≠ some b1 := fun h => by cases h
  have hm1 := m1.lt
  refine s_app1 (o := b1) el22 F (by decide) rfl rfl hO ml rfl (one3 rfl) hat (by omega) (by omega) (by decide) (by omega) fun v3 w8 a o3 hOn hOatn how hsrc k9 hkeep F => ?_
  have sk9 := k9.size
  have hB := k9.under hB (by omega)
  have m1 : Blk w8 b1 _ _ := (hkeep _ m1.lt hne).trans m1
  have hO := hOn
  have hO_at := hOatn
  have hneg : v3.ownBlock ≠ some b1 := fun h => by rcases hsrc b1 h with h | h; exact hne h; omega
  refine F.sg rfl fun a F => ?_
  refine s_end (K3 _ _ ?_)
  refine wp_seq_k fun _ K6 => ?_
  refine wp_rs fun _ K7 => F.vl (x_fa0 fa59_1 rfl) fun a F => F.ld m1 flat29 rfl rfl fun a F => F.vl (x_len Try.underlying92 rfl) fun a F => F.mv rfl fun a F => ?_
  refine s_end (K7 _ _ ?_)
  refine wp_block ?_
  have hJ : ∃ v' o' zs, w8.ownsRow w0.heap.size 24 3 v' zs.length (zs.flatMap lc) ∧ (∀ j, v'.ownBlock = some j → j = o') ∧ v'.ownBlock ≠ some b1 ∧ (w0.heap.size ≤ o' ∧ o' < w8.heap.size) ∧ PL w8 (fun k => w0.heap.size ≤ k ∧ k ≠ o' ∧ k < w8.heap.size) zs (pts c ks 0) ∧ v3 = v' := ⟨v3, o3, [(1, c, .slice none 0 0)], by simpa using hO, hO_at, hneg, by omega, by rw [hp0]; exact PL.snoc PL.nil ⟨rfl, by show c = _; omega, Rd.nil _ _⟩, rfl⟩
  obtain ⟨vj, oj, zj, hj1, hj2, hj3, hj4, hj5, hj6⟩ := hJ
  rw [hj6] at F
  refine wp_up ks.length (fun i a w => ∃ v' o' zs, w.ownsRow w0.heap.size 24 3 v' zs.length (zs.flatMap lc) ∧ (∀ j, v'.ownBlock = some j → j = o') ∧ v'.ownBlock ≠ some b1 ∧ (w0.heap.size ≤ o' ∧ o' < w.heap.size) ∧ PL w (fun k => w0.heap.size ≤ k ∧ k ≠ o' ∧ k < w.heap.size) zs (pts c ks i) ∧ Blk w b1 126 [.int .i64 c, .slice av ks.length cv] ∧ Below w0.heap.size w0 w ∧ Fs 49 a [(24, .int .i64 (i : Int)), (23, .int .i64 (ks.length : Int)), (22, .slice av ks.length cv), (3, v')]) ⟨vj, oj, zj, hj1, hj2, hj3, hj4, hj5, m1, hB, F.sub _ rfl⟩ ?_
  repeat clear F
  clear hB m1
  rintro i a w hi ⟨vv, o2, zs, hO, hat, hne, hlo, hP, m1, hB, F⟩ K' hK'
  have sB := hB.size
  have hm1 := m1.lt
  obtain ⟨top, htop⟩ : ∃ h, h = w.heap.size := ⟨_, rfl⟩
  rw [← htop] at hP
  have hPl := hP.1
  have hple := pts_le c ks i
  refine wp_rs fun _ K8 => F.vl (x_lss rfl rfl rfl) fun a F => ?_
  refine s_end (K8 _ _ ?_)
  refine wp_seq_k fun _ K9 => ?_
  refine wp_iff F rfl (fun hc25 => ?_) (fun hc25 => ?_)
  ·
   have hgi := hLo.gt i
   obtain ⟨b6, off6, c6, hve, hrow⟩ := rd_rowI hV (i := i) (by omega)
   cases hve
   refine wp_skip (K9 _ _ ?_)
   refine wp_seq_k fun _ K10 => ?_
   refine wp_block ?_
   refine wp_rs fun _ K11 => F.mv rfl fun a F => F.vl (x_ixa rfl rfl (m_ixs i Try.underlying92 el29.size rfl (by omega))) fun a F => F.vl (x_load rfl (m_load flat3 (hrow _ hB))) fun a F => F.sg rfl fun a F => F.sg rfl fun a F => ?_
   refine s_end (K11 _ _ ?_)
   refine wp_block ?_
   rcases (show gt ks i = -1 ∨ gt ks i = 0 ∨ 0 < gt ks i by omega) with hg | hg | hg
   ·
    have hp1 : part1 i (gt ks i) = [] := by rw [part1, if_pos (by omega)]
    refine wp_rs fun _ K13 => F.mv rfl fun a F => F.vl (eqlT (by omega) rfl rfl) fun a F => F.sg rfl fun a F => ?_
    refine s_end (K13 _ _ ?_)
    refine wp_if F rfl ?_
    refine wp_skip (K10 _ _ ?_)
    refine wp_region_lit ?_
    refine F.vl (x_addn (i + 1) (by omega) (by omega) rfl rfl) fun a F => F.mv rfl fun a F => ?_
    refine s_end (hK' _ _ (by omega) ⟨vv, o2, zs, hO, hat, hne, by omega, by rw [pts, hp1, List.append_nil]; exact hP.mono (fun k (hk : w0.heap.size ≤ k ∧ k ≠ o2 ∧ k < top) => (by omega : _ ∧ _ ∧ _)), m1, hB, F.sub _ rfl⟩)
   ·
    have hp1 : part1 i (gt ks i) = [.var i] := by rw [part1, if_neg (by omega), if_pos hg]
    refine wp_rs fun _ K14 => F.mv rfl fun a F => F.vl (eqlF (by omega) rfl rfl) fun a F => F.sg rfl fun a F => ?_
    refine s_end (K14 _ _ ?_)
    refine wp_if F rfl ?_
    refine wp_rs fun _ K15 => F.mv rfl fun a F => F.vl (eqlT (by omega) rfl rfl) fun a F => F.sg rfl fun a F => ?_
    refine s_end (K15 _ _ ?_)
    refine wp_if F rfl ?_
    refine wp_region_lit ?_
    refine F.mv rfl fun a F => F.mv rfl fun a F => ?_
    refine s_callB [_] F E155 rfl (by decide) (var37 (i : Int) w) fun w10 a B11 F => ?_
    have sB11 := B11.size
    have hB := bt hB B11
    have m1 := m1.old B11
    have hO := own_below hO B11
    have hP := hP.below B11
    refine s_litG [lv (2, (i : Int), .slice none 0 0)] el22 F (by decide) rfl (by simp [Value.cells, lc]) rfl (by decide) (by decide) fun w12 bl a ebl ml B13 zbl F => ?_
    have sB13 := B13.size
    have hB := bt hB B13
    have m1 := m1.old B13
    have hO := own_below hO B13
    have hP := hP.below B13
    have ml : Blk w12 bl 24 (lc (2, (i : Int), .slice none 0 0)) := by simpa [Value.cells] using ml
    refine s_app1 (o := o2) el22 F (by decide) rfl rfl hO ml rfl (one3 rfl) hat (by omega) (by omega) (by decide) (by omega) fun v3 w14 a o3 hOn hOatn how hsrc k15 hkeep F => ?_
    have sk15 := k15.size
    have hB := k15.under hB (by omega)
    have m1 : Blk w14 b1 _ _ := (hkeep _ m1.lt hne).trans m1
    have hP := hP.k2 k15 (fun k (hk : w0.heap.size ≤ k ∧ k ≠ o2 ∧ k < top) => by omega)
    have hO := hOn
    have hO_at := hOatn
    have hneg : v3.ownBlock ≠ some b1 := fun h => by rcases hsrc b1 h with h | h; exact hne h; omega
    refine F.sg rfl fun a F => ?_
    refine s_end (K10 _ _ ?_)
    refine wp_region_lit ?_
    refine F.vl (x_addn (i + 1) (by omega) (by omega) rfl rfl) fun a F => F.mv rfl fun a F => ?_
    refine s_end (hK' _ _ (by omega) ⟨v3, o3, zs ++ [(2, (i : Int), .slice none 0 0)], by rw [fm3_app]; simpa using hO, hO_at, hneg, by omega, by rw [pts, hp1]; exact (hP.mono (fun k (hk : w0.heap.size ≤ k ∧ k ≠ o2 ∧ k < top) => (by omega : _ ∧ _ ∧ _))).snoc (⟨rfl, rfl, Rd.nil _ _⟩), m1, hB, F.sub _ rfl⟩)
   ·
    have hp1 : part1 i (gt ks i) = [.succ (gt ks i).toNat (.var i)] := by rw [part1, if_neg (by omega), if_neg (by omega)]
    refine wp_rs fun _ K16 => F.mv rfl fun a F => F.vl (eqlF (by omega) rfl rfl) fun a F => F.sg rfl fun a F => ?_
    refine s_end (K16 _ _ ?_)
    refine wp_if F rfl ?_
    refine wp_rs fun _ K17 => F.mv rfl fun a F => F.vl (eqlF (by omega) rfl rfl) fun a F => F.sg rfl fun a F => ?_
    refine s_end (K17 _ _ ?_)
    refine wp_if F rfl ?_
    refine wp_region_lit ?_
    refine F.mv rfl fun a F => F.vl (x_move (v := .int .i64 ((gt ks i).toNat : Int)) (by rw [show ((gt ks i).toNat : Int) = gt ks i by omega]; rfl)) fun a F => F.mv rfl fun a F => ?_
    refine s_callB [_] F E155 rfl (by decide) (var37 (i : Int) w) fun w16 a B17 F => ?_
    have sB17 := B17.size
    have hB := bt hB B17
    have m1 := m1.old B17
    have hO := own_below hO B17
    have hP := hP.below B17
    refine s_callR (R := fun v w' => ∃ z, v = lv z ∧ RSn w' (fun k => False ∨ w16.heap.size ≤ k) (.succ (gt ks i).toNat (.var i)) z) [_, _] F E156 rfl (by decide) (succ55n (fun _ => False) (gt ks i).toNat (.var i) (2, (i : Int), .slice none 0 0) w16 ⟨rfl, rfl, Rd.nil _ _⟩) ?_
    rintro _ w18 a ⟨z, rfl, hz0⟩ B19 F
    have sB19 := B19.size
    have hB := bt hB B19
    have m1 := m1.old B19
    have hO := own_below hO B19
    have hP := hP.below B19
    have hz := (hz0.valid).mono (B := fun k => w16.heap.size ≤ k ∧ k < w18.heap.size) (fun k h => ⟨h.1.resolve_left (fun x => x), h.2⟩)
    clear hz0
    have h1z := hz.rs.one1
    refine s_litG [lv z] el22 F (by decide) rfl (by simp [Value.cells, lc]) rfl (by decide) (by decide) fun w20 bl a ebl ml B21 zbl F => ?_
    have sB21 := B21.size
    have hB := bt hB B21
    have m1 := m1.old B21
    have hO := own_below hO B21
    have hP := hP.below B21
    have hz := hz.below B21
    have ml : Blk w20 bl 24 (lc z) := by simpa [Value.cells] using ml
    refine s_app1 (o := o2) el22 F (by decide) rfl rfl hO ml rfl (one_lc h1z) hat (by omega) (by omega) (by decide) (by omega) fun v3 w22 a o3 hOn hOatn how hsrc k23 hkeep F => ?_
    have sk23 := k23.size
    have hB := k23.under hB (by omega)
    have m1 : Blk w22 b1 _ _ := (hkeep _ m1.lt hne).trans m1
    have hP := hP.k2 k23 (fun k (hk : w0.heap.size ≤ k ∧ k ≠ o2 ∧ k < top) => by omega)
    have hz := hz.k2 k23 (fun k (hk : w16.heap.size ≤ k ∧ k < w18.heap.size) => by omega)
    have hO := hOn
    have hO_at := hOatn
    have hneg : v3.ownBlock ≠ some b1 := fun h => by rcases hsrc b1 h with h | h; exact hne h; omega
    refine F.sg rfl fun a F => ?_
    refine s_end (K10 _ _ ?_)
    refine wp_region_lit ?_
    refine F.vl (x_addn (i + 1) (by omega) (by omega) rfl rfl) fun a F => F.mv rfl fun a F => ?_
    refine s_end (hK' _ _ (by omega) ⟨v3, o3, zs ++ [z], by rw [fm3_app]; simpa using hO, hO_at, hneg, by omega, by rw [pts, hp1]; exact (hP.mono (fun k (hk : w0.heap.size ≤ k ∧ k ≠ o2 ∧ k < top) => (by omega : _ ∧ _ ∧ _))).snoc (hz.mono (fun k (hk : w16.heap.size ≤ k ∧ k < w18.heap.size) => (by omega : _ ∧ _ ∧ _))), m1, hB, F.sub _ rfl⟩)
  ·
   obtain rfl : i = ks.length := by omega
   refine wp_exit (K6 _ _ ?_)
   refine wp_rs fun _ K18 => F.mv rfl fun a F => F.sg rfl fun a F => ?_
   refine s_end (K18 _ _ ?_)
   refine wp_ret (res_slot F rfl rfl ⟨_, rfl, ⟨zs, Rd.own hO, hP.mono (fun k (hk : w0.heap.size ≤ k ∧ k ≠ o2 ∧ k < top) => (by omega : _ ≤ _))⟩, hB⟩)
 ·
  have hp0 : pts c ks 0 = [.num c.toNat] := by rw [pts, if_pos (.inr (List.eq_nil_of_length_eq_zero hq.2))]
  refine wp_rs fun _ K19 => F.vl (x_fa0 fa59_0 rfl) fun a F => F.ld m1 flat3 rfl rfl fun a F => F.vl (neqF (by omega) rfl rfl) fun a F => F.mv rfl fun a F => s_grd 9 F rfl rfl rfl <| F.vl (x_fa0 fa59_1 rfl) fun a F => s_grd 9 F rfl rfl rfl <| F.ld m1 flat29 rfl rfl fun a F => s_grd 9 F rfl rfl rfl <| F.vl (x_len Try.underlying92 rfl) fun a F => s_grd 9 F rfl rfl rfl <| F.vl (eqlT (by omega) rfl rfl) fun a F => F.vl (x_pick (b := false) rfl rfl) fun a F => ?_
  refine s_end (K19 _ _ ?_)
  refine wp_if F rfl ?_
  refine wp_region_lit ?_
  refine F.mv rfl fun a F => F.vl (x_fa0 fa59_0 rfl) fun a F => F.ld m1 flat3 rfl rfl fun a F => ?_
  refine s_callB [_] F E154 rfl (by decide) (num36 c w2) fun w24 a B25 F => ?_
  have sB25 := B25.size
  have hB := bt hB B25
  have m1 := m1.old B25
  refine s_litG [lv (1, c, .slice none 0 0)] el22 F (by decide) rfl (by simp [Value.cells, lc]) rfl (by decide) (by decide) fun w26 bl a ebl ml B27 zbl F => ?_
  have sB27 := B27.size
  have hB := bt hB B27
  have m1 := m1.old B27
  have ml : Blk w26 bl 24 (lc (1, c, .slice none 0 0)) := by simpa [Value.cells] using ml
  have hO : w26.ownsRow w0.heap.size 24 3 (.slice none 0 0) 0 [] := World.ownsRow_nil _ _ _ _
  have hat : ∀ j, (Value.slice none 0 0).ownBlock = some j → j = b1 := fun j h => by cases h
  have hne : (Value.slice none 0 0).ownBlock ≠ some b1 := fun h => by cases h
  have hm1 := m1.lt
  refine s_app1 (o := b1) el22 F (by decide) rfl rfl hO ml rfl (one3 rfl) hat (by omega) (by omega) (by decide) (by omega) fun v3 w28 a o3 hOn hOatn how hsrc k29 hkeep F => ?_
  have sk29 := k29.size
  have hB := k29.under hB (by omega)
  have m1 : Blk w28 b1 _ _ := (hkeep _ m1.lt hne).trans m1
  have hO := hOn
  have hO_at := hOatn
  have hneg : v3.ownBlock ≠ some b1 := fun h => by rcases hsrc b1 h with h | h; exact hne h; omega
  refine F.sg rfl fun a F => ?_
  refine s_end (K3 _ _ ?_)
  refine wp_seq_k fun _ K20 => ?_
  refine wp_rs fun _ K21 => F.vl (x_fa0 fa59_1 rfl) fun a F => F.ld m1 flat29 rfl rfl fun a F => F.vl (x_len Try.underlying92 rfl) fun a F => F.mv rfl fun a F => ?_
  refine s_end (K21 _ _ ?_)
  refine wp_block ?_
  have hJ : ∃ v' o' zs, w28.ownsRow w0.heap.size 24 3 v' zs.length (zs.flatMap lc) ∧ (∀ j, v'.ownBlock = some j → j = o') ∧ v'.ownBlock ≠ some b1 ∧ (w0.heap.size ≤ o' ∧ o' < w28.heap.size) ∧ PL w28 (fun k => w0.heap.size ≤ k ∧ k ≠ o' ∧ k < w28.heap.size) zs (pts c ks 0) ∧ v3 = v' := ⟨v3, o3, [(1, c, .slice none 0 0)], by simpa using hO, hO_at, hneg, by omega, by rw [hp0]; exact PL.snoc PL.nil ⟨rfl, by show c = _; omega, Rd.nil _ _⟩, rfl⟩
  obtain ⟨vj, oj, zj, hj1, hj2, hj3, hj4, hj5, hj6⟩ := hJ
  rw [hj6] at F
  refine wp_up ks.length (fun i a w => ∃ v' o' zs, w.ownsRow w0.heap.size 24 3 v' zs.length (zs.flatMap lc) ∧ (∀ j, v'.ownBlock = some j → j = o') ∧ v'.ownBlock ≠ some b1 ∧ (w0.heap.size ≤ o' ∧ o' < w.heap.size) ∧ PL w (fun k => w0.heap.size ≤ k ∧ k ≠ o' ∧ k < w.heap.size) zs (pts c ks i) ∧ Blk w b1 126 [.int .i64 c, .slice av ks.length cv] ∧ Below w0.heap.size w0 w ∧ Fs 49 a [(24, .int .i64 (i : Int)), (23, .int .i64 (ks.length : Int)), (22, .slice av ks.length cv), (3, v')]) ⟨vj, oj, zj, hj1, hj2, hj3, hj4, hj5, m1, hB, F.sub _ rfl⟩ ?_
  repeat clear F
  clear hB m1
  rintro i a w hi ⟨vv, o2, zs, hO, hat, hne, hlo, hP, m1, hB, F⟩ K' hK'
  have sB := hB.size
  have hm1 := m1.lt
  obtain ⟨top, htop⟩ : ∃ h, h = w.heap.size := ⟨_, rfl⟩
  rw [← htop] at hP
  have hPl := hP.1
  have hple := pts_le c ks i
  refine wp_rs fun _ K22 => F.vl (x_lss rfl rfl rfl) fun a F => ?_
  refine s_end (K22 _ _ ?_)
  refine wp_seq_k fun _ K23 => ?_
  refine wp_iff F rfl (fun hc25 => ?_) (fun hc25 => ?_)
  ·
   have hgi := hLo.gt i
   obtain ⟨b6, off6, c6, hve, hrow⟩ := rd_rowI hV (i := i) (by omega)
   cases hve
   refine wp_skip (K23 _ _ ?_)
   refine wp_seq_k fun _ K24 => ?_
   refine wp_block ?_
   refine wp_rs fun _ K25 => F.mv rfl fun a F => F.vl (x_ixa rfl rfl (m_ixs i Try.underlying92 el29.size rfl (by omega))) fun a F => F.vl (x_load rfl (m_load flat3 (hrow _ hB))) fun a F => F.sg rfl fun a F => F.sg rfl fun a F => ?_
   refine s_end (K25 _ _ ?_)
   refine wp_block ?_
   rcases (show gt ks i = -1 ∨ gt ks i = 0 ∨ 0 < gt ks i by omega) with hg | hg | hg
   ·
    have hp1 : part1 i (gt ks i) = [] := by rw [part1, if_pos (by omega)]
    refine wp_rs fun _ K27 => F.mv rfl fun a F => F.vl (eqlT (by omega) rfl rfl) fun a F => F.sg rfl fun a F => ?_
    refine s_end (K27 _ _ ?_)
    refine wp_if F rfl ?_
    refine wp_skip (K24 _ _ ?_)
    refine wp_region_lit ?_
    refine F.vl (x_addn (i + 1) (by omega) (by omega) rfl rfl) fun a F => F.mv rfl fun a F => ?_
    refine s_end (hK' _ _ (by omega) ⟨vv, o2, zs, hO, hat, hne, by omega, by rw [pts, hp1, List.append_nil]; exact hP.mono (fun k (hk : w0.heap.size ≤ k ∧ k ≠ o2 ∧ k < top) => (by omega : _ ∧ _ ∧ _)), m1, hB, F.sub _ rfl⟩)
   ·
    have hp1 : part1 i (gt ks i) = [.var i] := by rw [part1, if_neg (by omega), if_pos hg]
    refine wp_rs fun _ K28 => F.mv rfl fun a F => F.vl (eqlF (by omega) rfl rfl) fun a F => F.sg rfl fun a F => ?_
    refine s_end (K28 _ _ ?_)
    refine wp_if F rfl ?_
    refine wp_rs fun _ K29 => F.mv rfl fun a F => F.vl (eqlT (by omega) rfl rfl) fun a F => F.sg rfl fun a F => ?_
    refine s_end (K29 _ _ ?_)
    refine wp_if F rfl ?_
    refine wp_region_lit ?_
    refine F.mv rfl fun a F => F.mv rfl fun a F => ?_
    refine s_callB [_] F E155 rfl (by decide) (var37 (i : Int) w) fun w30 a B31 F => ?_
    have sB31 := B31.size
    have hB := bt hB B31
    have m1 := m1.old B31
    have hO := own_below hO B31
    have hP := hP.below B31
    refine s_litG [lv (2, (i : Int), .slice none 0 0)] el22 F (by decide) rfl (by simp [Value.cells, lc]) rfl (by decide) (by decide) fun w32 bl a ebl ml B33 zbl F => ?_
    have sB33 := B33.size
    have hB := bt hB B33
    have m1 := m1.old B33
    have hO := own_below hO B33
    have hP := hP.below B33
    have ml : Blk w32 bl 24 (lc (2, (i : Int), .slice none 0 0)) := by simpa [Value.cells] using ml
    refine s_app1 (o := o2) el22 F (by decide) rfl rfl hO ml rfl (one3 rfl) hat (by omega) (by omega) (by decide) (by omega) fun v3 w34 a o3 hOn hOatn how hsrc k35 hkeep F => ?_
    have sk35 := k35.size
    have hB := k35.under hB (by omega)
    have m1 : Blk w34 b1 _ _ := (hkeep _ m1.lt hne).trans m1
    have hP := hP.k2 k35 (fun k (hk : w0.heap.size ≤ k ∧ k ≠ o2 ∧ k < top) => by omega)
    have hO := hOn
    have hO_at := hOatn
    have hneg : v3.ownBlock ≠ some b1 := fun h => by rcases hsrc b1 h with h | h; exact hne h; omega
    refine F.sg rfl fun a F => ?_
    refine s_end (K24 _ _ ?_)
    refine wp_region_lit ?_
    refine F.vl (x_addn (i + 1) (by omega) (by omega) rfl rfl) fun a F => F.mv rfl fun a F => ?_
    refine s_end (hK' _ _ (by omega) ⟨v3, o3, zs ++ [(2, (i : Int), .slice none 0 0)], by rw [fm3_app]; simpa using hO, hO_at, hneg, by omega, by rw [pts, hp1]; exact (hP.mono (fun k (hk : w0.heap.size ≤ k ∧ k ≠ o2 ∧ k < top) => (by omega : _ ∧ _ ∧ _))).snoc (⟨rfl, rfl, Rd.nil _ _⟩), m1, hB, F.sub _ rfl⟩)
   ·
    have hp1 : part1 i (gt ks i) = [.succ (gt ks i).toNat (.var i)] := by rw [part1, if_neg (by omega), if_neg (by omega)]
    refine wp_rs fun _ K30 => F.mv rfl fun a F => F.vl (eqlF (by omega) rfl rfl) fun a F => F.sg rfl fun a F => ?_
    refine s_end (K30 _ _ ?_)
    refine wp_if F rfl ?_
    refine wp_rs fun _ K31 => F.mv rfl fun a F => F.vl (eqlF (by omega) rfl rfl) fun a F => F.sg rfl fun a F => ?_
    refine s_end (K31 _ _ ?_)
    refine wp_if F rfl ?_
    refine wp_region_lit ?_
    refine F.mv rfl fun a F => F.vl (x_move (v := .int .i64 ((gt ks i).toNat : Int)) (by rw [show ((gt ks i).toNat : Int) = gt ks i by omega]; rfl)) fun a F => F.mv rfl fun a F => ?_
    refine s_callB [_] F E155 rfl (by decide) (var37 (i : Int) w) fun w36 a B37 F => ?_
    have sB37 := B37.size
    have hB := bt hB B37
    have m1 := m1.old B37
    have hO := own_below hO B37
    have hP := hP.below B37
    refine s_callR (R := fun v w' => ∃ z, v = lv z ∧ RSn w' (fun k => False ∨ w36.heap.size ≤ k) (.succ (gt ks i).toNat (.var i)) z) [_, _] F E156 rfl (by decide) (succ55n (fun _ => False) (gt ks i).toNat (.var i) (2, (i : Int), .slice none 0 0) w36 ⟨rfl, rfl, Rd.nil _ _⟩) ?_
    rintro _ w38 a ⟨z, rfl, hz0⟩ B39 F
    have sB39 := B39.size
    have hB := bt hB B39
    have m1 := m1.old B39
    have hO := own_below hO B39
    have hP := hP.below B39
    have hz := (hz0.valid).mono (B := fun k => w36.heap.size ≤ k ∧ k < w38.heap.size) (fun k h => ⟨h.1.resolve_left (fun x => x), h.2⟩)
    clear hz0
    have h1z := hz.rs.one1
    refine s_litG [lv z] el22 F (by decide) rfl (by simp [Value.cells, lc]) rfl (by decide) (by decide) fun w40 bl a ebl ml B41 zbl F => ?_
    have sB41 := B41.size
    have hB := bt hB B41
    have m1 := m1.old B41
    have hO := own_below hO B41
    have hP := hP.below B41
    have hz := hz.below B41
    have ml : Blk w40 bl 24 (lc z) := by simpa [Value.cells] using ml
    refine s_app1 (o := o2) el22 F (by decide) rfl rfl hO ml rfl (one_lc h1z) hat (by omega) (by omega) (by decide) (by omega) fun v3 w42 a o3 hOn hOatn how hsrc k43 hkeep F => ?_
    have sk43 := k43.size
    have hB := k43.under hB (by omega)
    have m1 : Blk w42 b1 _ _ := (hkeep _ m1.lt hne).trans m1
    have hP := hP.k2 k43 (fun k (hk : w0.heap.size ≤ k ∧ k ≠ o2 ∧ k < top) => by omega)
    have hz := hz.k2 k43 (fun k (hk : w36.heap.size ≤ k ∧ k < w38.heap.size) => by omega)
    have hO := hOn
    have hO_at := hOatn
    have hneg : v3.ownBlock ≠ some b1 := fun h => by rcases hsrc b1 h with h | h; exact hne h; omega
    refine F.sg rfl fun a F => ?_
    refine s_end (K24 _ _ ?_)
    refine wp_region_lit ?_
    refine F.vl (x_addn (i + 1) (by omega) (by omega) rfl rfl) fun a F => F.mv rfl fun a F => ?_
    refine s_end (hK' _ _ (by omega) ⟨v3, o3, zs ++ [z], by rw [fm3_app]; simpa using hO, hO_at, hneg, by omega, by rw [pts, hp1]; exact (hP.mono (fun k (hk : w0.heap.size ≤ k ∧ k ≠ o2 ∧ k < top) => (by omega : _ ∧ _ ∧ _))).snoc (hz.mono (fun k (hk : w36.heap.size ≤ k ∧ k < w38.heap.size) => (by omega : _ ∧ _ ∧ _))), m1, hB, F.sub _ rfl⟩)
  ·
   obtain rfl : i = ks.length := by omega
   refine wp_exit (K20 _ _ ?_)
   refine wp_rs fun _ K32 => F.mv rfl fun a F => F.sg rfl fun a F => ?_
   refine s_end (K32 _ _ ?_)
   refine wp_ret (res_slot F rfl rfl ⟨_, rfl, ⟨zs, Rd.own hO, hP.mono (fun k (hk : w0.heap.size ≤ k ∧ k ≠ o2 ∧ k < top) => (by omega : _ ≤ _))⟩, hB⟩)
 ·
  have hp0 : pts c ks 0 = [] := by rw [pts, if_neg]; rintro (h | h); exact h hq.1; exact hq.2 (by rw [h]; rfl)
  refine wp_rs fun _ K33 => F.vl (x_fa0 fa59_0 rfl) fun a F => F.ld m1 flat3 rfl rfl fun a F => F.vl (neqF (by omega) rfl rfl) fun a F => F.mv rfl fun a F => s_grd 9 F rfl rfl rfl <| F.vl (x_fa0 fa59_1 rfl) fun a F => s_grd 9 F rfl rfl rfl <| F.ld m1 flat29 rfl rfl fun a F => s_grd 9 F rfl rfl rfl <| F.vl (x_len Try.underlying92 rfl) fun a F => s_grd 9 F rfl rfl rfl <| F.vl (eqlF (by omega) rfl rfl) fun a F => F.vl (x_pick (b := false) rfl rfl) fun a F => ?_
  refine s_end (K33 _ _ ?_)
  refine wp_if F rfl ?_
  refine wp_skip (K3 _ _ ?_)
  refine wp_seq_k fun _ K34 => ?_
  refine wp_rs fun _ K35 => F.vl (x_fa0 fa59_1 rfl) fun a F => F.ld m1 flat29 rfl rfl fun a F => F.vl (x_len Try.underlying92 rfl) fun a F => F.mv rfl fun a F => ?_
  refine s_end (K35 _ _ ?_)
  refine wp_block ?_
  have hJ : ∃ v' o' zs, w2.ownsRow w0.heap.size 24 3 v' zs.length (zs.flatMap lc) ∧ (∀ j, v'.ownBlock = some j → j = o') ∧ v'.ownBlock ≠ some b1 ∧ (w0.heap.size ≤ o' ∧ o' < w2.heap.size) ∧ PL w2 (fun k => w0.heap.size ≤ k ∧ k ≠ o' ∧ k < w2.heap.size) zs (pts c ks 0) ∧ Value.slice none 0 0 = v' := ⟨_, b1, [], World.ownsRow_nil _ _ _ _, (fun j h => by cases h), (fun h => by cases h), by have := m1.lt; omega, by rw [hp0]; exact PL.nil, rfl⟩
  obtain ⟨vj, oj, zj, hj1, hj2, hj3, hj4, hj5, hj6⟩ := hJ
  rw [hj6] at F
  refine wp_up ks.length (fun i a w => ∃ v' o' zs, w.ownsRow w0.heap.size 24 3 v' zs.length (zs.flatMap lc) ∧ (∀ j, v'.ownBlock = some j → j = o') ∧ v'.ownBlock ≠ some b1 ∧ (w0.heap.size ≤ o' ∧ o' < w.heap.size) ∧ PL w (fun k => w0.heap.size ≤ k ∧ k ≠ o' ∧ k < w.heap.size) zs (pts c ks i) ∧ Blk w b1 126 [.int .i64 c, .slice av ks.length cv] ∧ Below w0.heap.size w0 w ∧ Fs 49 a [(24, .int .i64 (i : Int)), (23, .int .i64 (ks.length : Int)), (22, .slice av ks.length cv), (3, v')]) ⟨vj, oj, zj, hj1, hj2, hj3, hj4, hj5, m1, hB, F.sub _ rfl⟩ ?_
  repeat clear F
  clear hB m1
  rintro i a w hi ⟨vv, o2, zs, hO, hat, hne, hlo, hP, m1, hB, F⟩ K' hK'
  have sB := hB.size
  have hm1 := m1.lt
  obtain ⟨top, htop⟩ : ∃ h, h = w.heap.size := ⟨_, rfl⟩
  rw [← htop] at hP
  have hPl := hP.1
  have hple := pts_le c ks i
  refine wp_rs fun _ K36 => F.vl (x_lss rfl rfl rfl) fun a F => ?_
  refine s_end (K36 _ _ ?_)
  refine wp_seq_k fun _ K37 => ?_
  refine wp_iff F rfl (fun hc25 => ?_) (fun hc25 => ?_)
  ·
   have hgi := hLo.gt i
   obtain ⟨b6, off6, c6, hve, hrow⟩ := rd_rowI hV (i := i) (by omega)
   cases hve
   refine wp_skip (K37 _ _ ?_)
   refine wp_seq_k fun _ K38 => ?_
   refine wp_block ?_
   refine wp_rs fun _ K39 => F.mv rfl fun a F => F.vl (x_ixa rfl rfl (m_ixs i Try.underlying92 el29.size rfl (by omega))) fun a F => F.vl (x_load rfl (m_load flat3 (hrow _ hB))) fun a F => F.sg rfl fun a F => F.sg rfl fun a F => ?_
   refine s_end (K39 _ _ ?_)
   refine wp_block ?_
   rcases (show gt ks i = -1 ∨ gt ks i = 0 ∨ 0 < gt ks i by omega) with hg | hg | hg
   ·
    have hp1 : part1 i (gt ks i) = [] := by rw [part1, if_pos (by omega)]
    refine wp_rs fun _ K41 => F.mv rfl fun a F => F.vl (eqlT (by omega) rfl rfl) fun a F => F.sg rfl fun a F => ?_
    refine s_end (K41 _ _ ?_)
    refine wp_if F rfl ?_
    refine wp_skip (K38 _ _ ?_)
    refine wp_region_lit ?_
    refine F.vl (x_addn (i + 1) (by omega) (by omega) rfl rfl) fun a F => F.mv rfl fun a F => ?_
    refine s_end (hK' _ _ (by omega) ⟨vv, o2, zs, hO, hat, hne, by omega, by rw [pts, hp1, List.append_nil]; exact hP.mono (fun k (hk : w0.heap.size ≤ k ∧ k ≠ o2 ∧ k < top) => (by omega : _ ∧ _ ∧ _)), m1, hB, F.sub _ rfl⟩)
   ·
    have hp1 : part1 i (gt ks i) = [.var i] := by rw [part1, if_neg (by omega), if_pos hg]
    refine wp_rs fun _ K42 => F.mv rfl fun a F => F.vl (eqlF (by omega) rfl rfl) fun a F => F.sg rfl fun a F => ?_
    refine s_end (K42 _ _ ?_)
    refine wp_if F rfl ?_
    refine wp_rs fun _ K43 => F.mv rfl fun a F => F.vl (eqlT (by omega) rfl rfl) fun a F => F.sg rfl fun a F => ?_
    refine s_end (K43 _ _ ?_)
    refine wp_if F rfl ?_
    refine wp_region_lit ?_
    refine F.mv rfl fun a F => F.mv rfl fun a F => ?_
    refine s_callB [_] F E155 rfl (by decide) (var37 (i : Int) w) fun w44 a B45 F => ?_
    have sB45 := B45.size
    have hB := bt hB B45
    have m1 := m1.old B45
    have hO := own_below hO B45
    have hP := hP.below B45
    refine s_litG [lv (2, (i : Int), .slice none 0 0)] el22 F (by decide) rfl (by simp [Value.cells, lc]) rfl (by decide) (by decide) fun w46 bl a ebl ml B47 zbl F => ?_
    have sB47 := B47.size
    have hB := bt hB B47
    have m1 := m1.old B47
    have hO := own_below hO B47
    have hP := hP.below B47
    have ml : Blk w46 bl 24 (lc (2, (i : Int), .slice none 0 0)) := by simpa [Value.cells] using ml
    refine s_app1 (o := o2) el22 F (by decide) rfl rfl hO ml rfl (one3 rfl) hat (by omega) (by omega) (by decide) (by omega) fun v3 w48 a o3 hOn hOatn how hsrc k49 hkeep F => ?_
    have sk49 := k49.size
    have hB := k49.under hB (by omega)
    have m1 : Blk w48 b1 _ _ := (hkeep _ m1.lt hne).trans m1
    have hP := hP.k2 k49 (fun k (hk : w0.heap.size ≤ k ∧ k ≠ o2 ∧ k < top) => by omega)
    have hO := hOn
    have hO_at := hOatn
    have hneg : v3.ownBlock ≠ some b1 := fun h => by rcases hsrc b1 h with h | h; exact hne h; omega
    refine F.sg rfl fun a F => ?_
    refine s_end (K38 _ _ ?_)
    refine wp_region_lit ?_
    refine F.vl (x_addn (i + 1) (by omega) (by omega) rfl rfl) fun a F => F.mv rfl fun a F => ?_
    refine s_end (hK' _ _ (by omega) ⟨v3, o3, zs ++ [(2, (i : Int), .slice none 0 0)], by rw [fm3_app]; simpa using hO, hO_at, hneg, by omega, by rw [pts, hp1]; exact (hP.mono (fun k (hk : w0.heap.size ≤ k ∧ k ≠ o2 ∧ k < top) => (by omega : _ ∧ _ ∧ _))).snoc (⟨rfl, rfl, Rd.nil _ _⟩), m1, hB, F.sub _ rfl⟩)
   ·
    have hp1 : part1 i (gt ks i) = [.succ (gt ks i).toNat (.var i)] := by rw [part1, if_neg (by omega), if_neg (by omega)]
    refine wp_rs fun _ K44 => F.mv rfl fun a F => F.vl (eqlF (by omega) rfl rfl) fun a F => F.sg rfl fun a F => ?_
    refine s_end (K44 _ _ ?_)
    refine wp_if F rfl ?_
    refine wp_rs fun _ K45 => F.mv rfl fun a F => F.vl (eqlF (by omega) rfl rfl) fun a F => F.sg rfl fun a F => ?_
    refine s_end (K45 _ _ ?_)
    refine wp_if F rfl ?_
    refine wp_region_lit ?_
    refine F.mv rfl fun a F => F.vl (x_move (v := .int .i64 ((gt ks i).toNat : Int)) (by rw [show ((gt ks i).toNat : Int) = gt ks i by omega]; rfl)) fun a F => F.mv rfl fun a F => ?_
    refine s_callB [_] F E155 rfl (by decide) (var37 (i : Int) w) fun w50 a B51 F => ?_
    have sB51 := B51.size
    have hB := bt hB B51
    have m1 := m1.old B51
    have hO := own_below hO B51
    have hP := hP.below B51
    refine s_callR (R := fun v w' => ∃ z, v = lv z ∧ RSn w' (fun k => False ∨ w50.heap.size ≤ k) (.succ (gt ks i).toNat (.var i)) z) [_, _] F E156 rfl (by decide) (succ55n (fun _ => False) (gt ks i).toNat (.var i) (2, (i : Int), .slice none 0 0) w50 ⟨rfl, rfl, Rd.nil _ _⟩) ?_
    rintro _ w52 a ⟨z, rfl, hz0⟩ B53 F
    have sB53 := B53.size
    have hB := bt hB B53
    have m1 := m1.old B53
    have hO := own_below hO B53
    have hP := hP.below B53
    have hz := (hz0.valid).mono (B := fun k => w50.heap.size ≤ k ∧ k < w52.heap.size) (fun k h => ⟨h.1.resolve_left (fun x => x), h.2⟩)
    clear hz0
    have h1z := hz.rs.one1
    refine s_litG [lv z] el22 F (by decide) rfl (by simp [Value.cells, lc]) rfl (by decide) (by decide) fun w54 bl a ebl ml B55 zbl F => ?_
    have sB55 := B55.size
    have hB := bt hB B55
    have m1 := m1.old B55
    have hO := own_below hO B55
    have hP := hP.below B55
    have hz := hz.below B55
    have ml : Blk w54 bl 24 (lc z) := by simpa [Value.cells] using ml
    refine s_app1 (o := o2) el22 F (by decide) rfl rfl hO ml rfl (one_lc h1z) hat (by omega) (by omega) (by decide) (by omega) fun v3 w56 a o3 hOn hOatn how hsrc k57 hkeep F => ?_
    have sk57 := k57.size
    have hB := k57.under hB (by omega)
    have m1 : Blk w56 b1 _ _ := (hkeep _ m1.lt hne).trans m1
    have hP := hP.k2 k57 (fun k (hk : w0.heap.size ≤ k ∧ k ≠ o2 ∧ k < top) => by omega)
    have hz := hz.k2 k57 (fun k (hk : w50.heap.size ≤ k ∧ k < w52.heap.size) => by omega)
    have hO := hOn
    have hO_at := hOatn
    have hneg : v3.ownBlock ≠ some b1 := fun h => by rcases hsrc b1 h with h | h; exact hne h; omega
    refine F.sg rfl fun a F => ?_
    refine s_end (K38 _ _ ?_)
    refine wp_region_lit ?_
    refine F.vl (x_addn (i + 1) (by omega) (by omega) rfl rfl) fun a F => F.mv rfl fun a F => ?_
    refine s_end (hK' _ _ (by omega) ⟨v3, o3, zs ++ [z], by rw [fm3_app]; simpa using hO, hO_at, hneg, by omega, by rw [pts, hp1]; exact (hP.mono (fun k (hk : w0.heap.size ≤ k ∧ k ≠ o2 ∧ k < top) => (by omega : _ ∧ _ ∧ _))).snoc (hz.mono (fun k (hk : w50.heap.size ≤ k ∧ k < w52.heap.size) => (by omega : _ ∧ _ ∧ _))), m1, hB, F.sub _ rfl⟩)
  ·
   obtain rfl : i = ks.length := by omega
   refine wp_exit (K34 _ _ ?_)
   refine wp_rs fun _ K46 => F.mv rfl fun a F => F.sg rfl fun a F => ?_
   refine s_end (K46 _ _ ?_)
   refine wp_ret (res_slot F rfl rfl ⟨_, rfl, ⟨zs, Rd.own hO, hP.mono (fun k (hk : w0.heap.size ≤ k ∧ k ≠ o2 ∧ k < top) => (by omega : _ ≤ _))⟩, hB⟩)
end Go.Proofs.Ytbhhbfdoadecgaa

namespace Go.Proofs.Ytbhhbfdoadecgaa
set_option maxRecDepth 100000
set_option maxHeartbeats 1600000
open Go.RowKit Go.Shelf
set_option linter.unusedVariables false
set_option linter.unusedSimpArgs false
theorem fm3_drop : ∀ (xs : List C3), (xs.drop 1).flatMap lc = (xs.flatMap lc).drop (1 * 3)
 | [] => rfl
 | x :: xs => by simp [lc]
theorem rd_tail {W : World} {a : Option Addr} {N c : Nat} {zs : List C3} (h : Rd W (.slice a N c) 3 zs.length (zs.flatMap lc)) (hz : 0 < zs.length) : Rd W (.slice (if c = 1 then a else a.map (·.add (1 * 3))) (N - 1) (c - 1)) 3 (zs.drop 1).length ((zs.drop 1).flatMap lc) := by
 have := h.from 1 (by omega)
 rw [fm3_drop, List.length_drop]
 exact this
theorem fold_snoc {ps : List SL} {i : Nat} {p q : SL} (h : ps[i]? = some q) : (ps.take (i + 1)).foldl SL.mx p = .mx ((ps.take i).foldl SL.mx p) q := by
 rw [List.take_add_one, h, List.foldl_append]
 rfl
theorem levF_eq {c : Int} {ks : List Int} {ps : List SL} {p : SL} (h : pts c ks ks.length = ps) (h0 : ps[0]? = some p) : levF c ks = (ps.drop 1).foldl SL.mx p := by
 unfold levF
 rw [h]
 cases ps with
 | nil => simp at h0
 | cons q qs => simp at h0; subst h0; rfl
theorem level41 (c : Int) (ks : List Int) (v : Value) (w0 : World) (hc : 0 ≤ c) (hl : ks.length ≤ 1001) (hLo : Lo ks) (hTm : Tm ks) (hV : Rd w0 v 1 ks.length (ints ks)) : Calls Try.prog 110 #[.agg [.int .i64 c, v].toArray] w0 fun e w' => ∃ u, e = .returned u ∧ (∃ z, u = lv z ∧ RSn w' (fun k => w0.heap.size ≤ k) (levF c ks) z) ∧ Below w0.heap.size w0 w' := by
 have hB := Below.refl w0.heap.size w0
 have sB := hB.size
 refine calls_fs 24 [(0, .agg [.int .i64 c, v].toArray)] Try.func110 rfl rfl rfl rfl rfl fun a F => ?_
 refine wp_rs fun _ K1 => ?_
 refine s_box ([.int .i64 c, v]) F (by decide) rfl rfl fun w2 b1 a eb1 m1 B3 zb1 F => ?_
 have sB3 := B3.size
 have hB := bt hB B3
 refine s_alloc F (by decide) zero24 fun w4 b2 a eb2 m2 B5 zb2 F => ?_
 have sB5 := B5.size
 have hB := bt hB B5
 have m1 := m1.old B5
 refine s_end (K1 _ _ ?_)
 refine wp_rs fun _ K2 => F.vl (x_ldW wide59 m1 rfl rfl) fun a F => ?_
 refine s_callR (R := fun u w' => ∃ zs, Rd w' u 3 zs.length (zs.flatMap lc) ∧ PL w' (fun k => w4.heap.size ≤ k) zs (pts c ks ks.length)) [_] F E140 rfl (by decide) (parts60 c ks v w4 hc hl hLo (hV.below hB)) ?_
 rintro vv w6 a ⟨zs, hVp, hPq⟩ B7 F
 have sB7 := B7.size
 have hB := bt hB B7
 have m2 := m2.old B7
 have hPp := hPq.valid.mono (B := fun k => w0.heap.size ≤ k ∧ k ≠ b2 ∧ k < w6.heap.size) (fun k h => ⟨Nat.le_trans (by omega : w0.heap.size ≤ w4.heap.size) h.1, by have := h.1; omega, h.2⟩)
 clear hPq
 have hple := pts_le c ks ks.length
 have hBP := Below.refl w6.heap.size w6
 have hppos := pts_pos (c := c) hTm
 have hPl := hPp.1
 obtain ⟨b8, off8, c8, z0, hve, hz0, hrow0⟩ := rd_row3 hVp (i := 0) (by omega)
 cases hve
 obtain ⟨p0, hp0e, hz0r⟩ := hPp.at hz0
 have h1z0 := hz0r.rs.one1
 refine F.sg rfl fun a F => ?_
 refine s_end (K2 _ _ ?_)
 refine wp_rs fun _ K3 => F.mv rfl fun a F => F.vl (x_ixa rfl rfl (m_ixsK 0 Try.underlying22 el22.size rfl (by omega))) fun a F => F.vl (x_ldA wide24 (hrow0 _ hBP) rfl rfl) fun a F => ?_
 refine s_alloc F (by decide) zero24 fun w8 b4 a eb4 m4 B9 zb4 F => ?_
 have sB9 := B9.size
 have hB := bt hB B9
 have hBP := bt hBP B9
 have m2 := m2.old B9
 refine s_putW F rfl rfl (size_wide wide24) m4 rfl (one_lc h1z0) fun w10 m4 o11 => ?_
 have so11 := o11.size
 have hB := hB.trans (o11.below (by omega))
 have hBP := hBP.trans (o11.below (by omega))
 have m2 := m2.only o11 (by omega)
 refine s_end (K3 _ _ ?_)
 refine wp_seq_k fun _ K4 => ?_
 have hV2 := rd_tail hVp (by omega)
 obtain ⟨a2, ha2⟩ : ∃ a2, a2 = (if c8 = 1 then some (⟨b8, off8, none⟩ : Addr) else (some (⟨b8, off8, none⟩ : Addr)).map (·.add (1 * 3))) := ⟨_, rfl⟩
 rw [← ha2] at hV2
 have hdl : (zs.drop 1).length = zs.length - 1 := by rw [List.length_drop]
 have hb4 := m4.lt
 have hbb : w0.heap.size ≤ b2 ∧ b2 < b4 := ⟨by omega, by omega⟩
 refine wp_rs fun _ K5 => F.mv rfl fun a F => F.vl (x_slice (v := .slice a2 (zs.length - 1) (c8 - 1)) (vlo := some (.int .i64 1)) (vhi := none) (vmx := none) rfl rfl rfl rfl (by rw [ha2]; exact m_sliceFK 1 Try.underlying22 el22.size rfl (by omega))) fun a F => F.vl (x_len Try.underlying22 rfl) fun a F => F.mv rfl fun a F => ?_
 refine s_end (K5 _ _ ?_)
 refine wp_block ?_
 refine wp_up (zs.length - 1) (fun i a w => ∃ z, Blk w b4 24 (lc z) ∧ RSn w (fun k => w0.heap.size ≤ k ∧ k ≠ b2 ∧ k ≠ b4) ((((pts c ks ks.length).drop 1).take i).foldl SL.mx p0) z ∧ Blk w b2 24 [.int .i64 0, .int .i64 0, .slice none 0 0] ∧ Below w0.heap.size w0 w ∧ Below w6.heap.size w6 w ∧ Fs 24 a [(15, .int .i64 (i : Int)), (14, .int .i64 ((zs.length - 1 : Nat) : Int)), (13, .slice a2 (zs.length - 1) (c8 - 1)), (4, .pointer (some ⟨b4, 0, none⟩)), (2, .pointer (some ⟨b2, 0, none⟩))]) ⟨z0, m4, (hz0r.below hBP).mono (fun k h => ⟨h.1, h.2.1, by have := h.2.2; omega⟩), m2, hB, hBP, F.sub _ rfl⟩ ?_
 repeat clear F
 clear hB hBP m4 m2
 rintro i a w hi ⟨z, m4, hz, m2, hB, hBP, F⟩ K' hK'
 have sB := hB.size
 have sBP := hBP.size
 have hml := m4.lt
 obtain ⟨top2, htop2⟩ : ∃ h, h = w.heap.size := ⟨_, rfl⟩
 have hz := hz.valid.mono (B := fun k => w0.heap.size ≤ k ∧ k ≠ b2 ∧ k ≠ b4 ∧ k < top2) (fun k h => ⟨h.1.1, h.1.2.1, h.1.2.2, by have := h.2; omega⟩)
 refine wp_rs fun _ K6 => F.vl (x_lss (b := decide (i < zs.length - 1)) (decide_eq_decide.2 (by omega)) rfl rfl) fun a F => ?_
 refine s_end (K6 _ _ ?_)
 refine wp_seq_k fun _ K7 => ?_
 refine wp_iff F rfl (fun hc16 => ?_) (fun hc16 => ?_)
 ·
  obtain ⟨b9, off9, c9, y, hve, hy, hrow⟩ := rd_row3 hV2 (i := i) (by omega)
  rw [hdl] at hve
  cases hve
  have hy1 : zs[i + 1]? = some y := by rw [List.getElem?_drop, Nat.add_comm] at hy; exact hy
  obtain ⟨q, hq1, hyr⟩ := hPp.at hy1
  have hq2 : ((pts c ks ks.length).drop 1)[i]? = some q := by rw [List.getElem?_drop, Nat.add_comm]; exact hq1
  have h1y := hyr.rs.one1
  have h1z := hz.rs.one1
  refine wp_skip (K7 _ _ ?_)
  refine wp_seq_k fun _ K8 => ?_
  refine wp_block ?_
  refine wp_rs fun _ K9 => F.vl (x_ixa rfl rfl (m_ixsK i Try.underlying22 el22.size rfl (by omega))) fun a F => F.vl (x_ldA wide24 (hrow _ hBP) rfl rfl) fun a F => ?_
  refine s_alloc F (by decide) zero24 fun w12 b6 a eb6 m6 B13 zb6 F => ?_
  have sB13 := B13.size
  have hB := bt hB B13
  have hBP := bt hBP B13
  have m4 := m4.old B13
  have m2 := m2.old B13
  have hz := hz.below B13
  refine s_putW F rfl rfl (size_wide wide24) m6 rfl (one_lc h1y) fun w14 m6 o15 => ?_
  have so15 := o15.size
  have hB := hB.trans (o15.below (by omega))
  have hBP := hBP.trans (o15.below (by omega))
  have m4 := m4.only o15 (by omega)
  have m2 := m2.only o15 (by omega)
  have hz := hz.only o15 (fun k (hk : w0.heap.size ≤ k ∧ k ≠ b2 ∧ k ≠ b4 ∧ k < top2) => by omega)
  refine s_end (K9 _ _ ?_)
  refine wp_region_lit ?_
  refine F.vl (x_ldW wide24 m4 rfl rfl) fun a F => F.vl (x_ldW wide24 m6 rfl rfl) fun a F => ?_
  refine s_callR (R := fun v w' => ∃ z', v = lv z' ∧ RSn w' (fun k => (w0.heap.size ≤ k ∧ k ≠ b2 ∧ k ≠ b4) ∨ w14.heap.size ≤ k) (.mx ((((pts c ks ks.length).drop 1).take i).foldl SL.mx p0) q) z') [_, _] F E141 rfl (by decide) (join52n (fun k => w0.heap.size ≤ k ∧ k ≠ b2 ∧ k ≠ b4) _ q z y w14 (hz.mono (fun k h => ⟨h.1, h.2.1, h.2.2.1⟩)) ((hyr.below hBP).mono (fun k h => ⟨h.1, h.2.1, by have := h.2.2; omega⟩))) ?_
  rintro _ w16 a ⟨z2, rfl, hz2⟩ B17 F
  have sB17 := B17.size
  have hB := bt hB B17
  have hBP := bt hBP B17
  have m4 := m4.old B17
  have m2 := m2.old B17
  have hz := hz2.mono (B := fun k => w0.heap.size ≤ k ∧ k ≠ b2 ∧ k ≠ b4) (fun k h => by rcases h with h | h; exact h; exact ⟨by omega, by omega, by omega⟩)
  clear hz2
  have h1z2 := hz.rs.one1
  refine s_putW F rfl rfl (size_wide wide24) m4 rfl (one_lc h1z2) fun w18 m4 o19 => ?_
  have so19 := o19.size
  have hB := hB.trans (o19.below (by omega))
  have hBP := hBP.trans (o19.below (by omega))
  have m2 := m2.only o19 (by omega)
  have hz := hz.only o19 (fun k (hk : w0.heap.size ≤ k ∧ k ≠ b2 ∧ k ≠ b4) => by omega)
  refine s_end (K8 _ _ ?_)
  refine wp_region_lit ?_
  refine F.vl (x_addn (i + 1) (by omega) (by omega) rfl rfl) fun a F => F.mv rfl fun a F => ?_
  refine s_end (hK' _ _ (by omega) ⟨z2, m4, by rw [fold_snoc hq2]; exact hz, m2, hB, hBP, F.sub _ rfl⟩)
 ·
  have hPl2 := hPp.1
  have hall : ((pts c ks ks.length).drop 1).take i = (pts c ks ks.length).drop 1 := List.take_of_length_le (by rw [List.length_drop]; omega)
  rw [hall, ← levF_eq rfl hp0e] at hz
  have h1z := hz.rs.one1
  refine wp_exit (K4 _ _ ?_)
  refine wp_rs fun _ K10 => F.vl (x_ldW wide24 m4 rfl rfl) fun a F => ?_
  refine s_putW F rfl rfl (size_wide wide24) m2 rfl (one_lc h1z) fun w20 m2 o21 => ?_
  have so21 := o21.size
  have hB := hB.trans (o21.below (by omega))
  have hz := hz.only o21 (fun k (hk : w0.heap.size ≤ k ∧ k ≠ b2 ∧ k ≠ b4 ∧ k < top2) => by omega)
  refine s_end (K10 _ _ ?_)
  refine wp_ret (res_cell F rfl rfl m2 wide24 ⟨_, rfl, ⟨z, rfl, hz.mono (fun k h => h.1)⟩, hB⟩)
theorem rLevel22 (c : Int) (ks : List Int) (v : Value) (w0 : World) (hc : 0 ≤ c) (hl : ks.length ≤ 1001) (hLo : Lo ks) (hTm : Tm ks) (hV : Rd w0 v 1 ks.length (ints ks)) : Calls Try.prog 73 #[.agg [.int .i64 c, v].toArray] w0 fun e w' => ∃ u, e = .returned u ∧ (∃ z, u = lv z ∧ RSn w' (fun k => w0.heap.size ≤ k) (levF c ks) z) ∧ Below w0.heap.size w0 w' := by
 obtain ⟨av, cv, rfl, _⟩ := hV.form
 have hB := Below.refl w0.heap.size w0
 have sB := hB.size
 refine calls_fs 64 [(0, .agg [.int .i64 c, .slice av ks.length cv].toArray)] Try.func73 rfl rfl rfl rfl rfl fun a F => ?_
 refine wp_rs fun _ K1 => ?_
 refine s_box ([.int .i64 c, .slice av ks.length cv]) F (by decide) rfl rfl fun w2 b1 a eb1 m1 B3 zb1 F => ?_
 have sB3 := B3.size
 have hB := bt hB B3
 refine s_alloc F (by decide) zero24 fun w4 b2 a eb2 m2 B5 zb2 F => ?_
 have sB5 := B5.size
 have hB := bt hB B5
 have m1 := m1.old B5
 refine s_end (K1 _ _ ?_)
 refine wp_rs fun _ K2 => F.sg rfl fun a F => ?_
 refine s_end (K2 _ _ ?_)
 refine wp_seq_k fun _ K3 => ?_
 rcases (show 0 < c ∨ (c = 0 ∧ ks.length = 0) ∨ (c = 0 ∧ ks.length ≠ 0) by omega) with hq | hq | hq
 ·
  have hp0 : pts c ks 0 = [.num c.toNat] := by rw [pts, if_pos (.inl (by omega))]
  refine wp_rs fun _ K5 => F.vl (x_fa0 fa36_0 rfl) fun a F => F.ld m1 flat3 rfl rfl fun a F => F.vl (gtrT (by omega) rfl rfl) fun a F => F.mv rfl fun a F => s_grdn 13 F rfl rfl (by decide) fun a F => s_grdn 13 F rfl rfl (by decide) fun a F => s_grdn 13 F rfl rfl (by decide) fun a F => s_grdn 13 F rfl rfl (by decide) fun a F => F.vl (x_pick (b := true) rfl rfl) fun a F => ?_
  refine s_end (K5 _ _ ?_)
  refine wp_if F rfl ?_
  refine wp_region_lit ?_
  refine F.mv rfl fun a F => F.vl (x_fa0 fa36_0 rfl) fun a F => F.ld m1 flat3 rfl rfl fun a F => F.vl (x_build (vs := [(0, _), (1, _)]) rfl (b24_01 _ _ _)) fun a F => ?_
  refine s_litG [lv (1, c, .slice none 0 0)] el22 F (by decide) rfl (by simp [Value.cells, lc]) rfl (by decide) (by decide) fun w6 bl a ebl ml B7 zbl F => ?_
  have sB7 := B7.size
  have hB := bt hB B7
  have m1 := m1.old B7
  have m2 := m2.old B7
  have ml : Blk w6 bl 24 (lc (1, c, .slice none 0 0)) := by simpa [Value.cells] using ml
  have hO : w6.ownsRow w0.heap.size 24 3 (.slice none 0 0) 0 [] := World.ownsRow_nil _ _ _ _
  have hat : ∀ j, (Value.slice none 0 0).ownBlock = some j → j = b1 := fun j h => by cases h
  have hne : (Value.slice none 0 0).ownBlock ≠ some b1 := fun h => by cases h
  have hm1 := m1.lt
  refine s_app1 (o := b1) el22 F (by decide) rfl rfl hO ml rfl (one3 rfl) hat (by omega) (by omega) (by decide) (by omega) fun v3 w8 a o3 hOn hOatn how hsrc k9 hkeep F => ?_
  have sk9 := k9.size
  have hB := k9.under hB (by omega)
  have m1 : Blk w8 b1 _ _ := (hkeep _ m1.lt hne).trans m1
  have m2 := m2.k2 k9 (by omega)
  have hO := hOn
  have hO_at := hOatn
  have hneg : v3.ownBlock ≠ some b1 := fun h => by rcases hsrc b1 h with h | h; exact hne h; omega
  refine F.sg rfl fun a F => ?_
  refine s_end (K3 _ _ ?_)
  refine wp_seq_k fun _ K6 => ?_
  refine wp_rs fun _ K7 => F.vl (x_fa0 fa36_1 rfl) fun a F => F.ld m1 flat29 rfl rfl fun a F => F.vl (x_len Try.underlying92 rfl) fun a F => F.mv rfl fun a F => ?_
  refine s_end (K7 _ _ ?_)
  refine wp_block ?_
  have hJ : ∃ v' o' zs, w8.ownsRow w0.heap.size 24 3 v' zs.length (zs.flatMap lc) ∧ (∀ j, v'.ownBlock = some j → j = o') ∧ v'.ownBlock ≠ some b1 ∧ (w0.heap.size ≤ o' ∧ o' < w8.heap.size) ∧ PL w8 (fun k => b2 < k ∧ k ≠ o' ∧ k < w8.heap.size) zs (pts c ks 0) ∧ v3 = v' ∧ (o' = b1 ∨ b2 < o') := ⟨v3, o3, [(1, c, .slice none 0 0)], by simpa using hO, hO_at, hneg, by omega, by rw [hp0]; exact PL.snoc PL.nil ⟨rfl, by show c = _; omega, Rd.nil _ _⟩, rfl, by omega⟩
  obtain ⟨vj, oj, zj, hj1, hj2, hj3, hj4, hj5, hj6, hj7⟩ := hJ
  rw [hj6] at F
  refine wp_up ks.length (fun i a w => ∃ v' o' zs, w.ownsRow w0.heap.size 24 3 v' zs.length (zs.flatMap lc) ∧ (∀ j, v'.ownBlock = some j → j = o') ∧ v'.ownBlock ≠ some b1 ∧ (w0.heap.size ≤ o' ∧ o' < w.heap.size) ∧ PL w (fun k => b2 < k ∧ k ≠ o' ∧ k < w.heap.size) zs (pts c ks i) ∧ Blk w b1 94 [.int .i64 c, .slice av ks.length cv] ∧ Blk w b2 24 [.int .i64 0, .int .i64 0, .slice none 0 0] ∧ b2 < o' + b2 + 1 ∧ (o' = b1 ∨ b2 < o') ∧ Below w0.heap.size w0 w ∧ Fs 64 a [(28, .int .i64 (i : Int)), (27, .int .i64 (ks.length : Int)), (26, .slice av ks.length cv), (3, v'), (2, .pointer (some ⟨b2, 0, none⟩))]) ⟨vj, oj, zj, hj1, hj2, hj3, hj4, hj5, m1, m2, by omega, hj7, hB, F.sub _ rfl⟩ ?_
  repeat clear F
  clear hB m1 m2
  rintro i a wq hi ⟨vv, o2, zs, hO, hat, hne, hlo, hP, m1, m2, _, ho2b, hB, F⟩ K' hK'
  have sB := hB.size
  have hm1 := m1.lt
  have hm2 := m2.lt
  obtain ⟨top, htop⟩ : ∃ h, h = wq.heap.size := ⟨_, rfl⟩
  rw [← htop] at hP
  have hPl := hP.1
  have hple := pts_le c ks i
  refine wp_rs fun _ K8 => F.vl (x_lss rfl rfl rfl) fun a F => ?_
  refine s_end (K8 _ _ ?_)
  refine wp_seq_k fun _ K9 => ?_
  refine wp_iff F rfl (fun hc29 => ?_) (fun hc29 => ?_)
  ·
   have hgi := hLo.gt i
   obtain ⟨b6, off6, c6, hve, hrowk⟩ := rd_rowI hV (i := i) (by omega)
   cases hve
   refine wp_skip (K9 _ _ ?_)
   refine wp_seq_k fun _ K10 => ?_
   refine wp_block ?_
   refine wp_rs fun _ K11 => F.mv rfl fun a F => F.vl (x_ixa rfl rfl (m_ixs i Try.underlying92 el29.size rfl (by omega))) fun a F => F.vl (x_load rfl (m_load flat3 (hrowk _ hB))) fun a F => F.sg rfl fun a F => F.sg rfl fun a F => ?_
   refine s_end (K11 _ _ ?_)
   rcases (show gt ks i = -1 ∨ gt ks i = 0 ∨ 0 < gt ks i by omega) with hg | hg | hg
   ·
    have hp1 : part1 i (gt ks i) = [] := by rw [part1, if_pos (by omega)]
    refine wp_rs fun _ K13 => F.mv rfl fun a F => F.vl (x_build (vs := [(0, _), (1, _)]) rfl (b24_01 _ _ _)) fun a F => ?_
    refine s_alloc F (by decide) zero24 fun w10 b6 a eb6 m6 B11 zb6 F => ?_
    have sB11 := B11.size
    have hB := bt hB B11
    have m1 := m1.old B11
    have m2 := m2.old B11
    have hO := own_below hO B11
    have hP := hP.below B11
    refine s_putW F rfl rfl (size_wide wide24) m6 rfl (one3 rfl) fun w12 m6 o13 => ?_
    have so13 := o13.size
    have hB := hB.trans (o13.below (by omega))
    have m1 := m1.only o13 (by omega)
    have m2 := m2.only o13 (by omega)
    have hO := own_only hO o13 (fun e => by have := hat _ e; omega)
    have hP := hP.only o13 (fun k (hk : b2 < k ∧ k ≠ o2 ∧ k < top) => by omega)
    refine s_end (K13 _ _ ?_)
    refine wp_seq_k fun _ K14 => ?_
    refine wp_rs fun _ K15 => F.mv rfl fun a F => F.vl (gtrF (by omega) rfl rfl) fun a F => ?_
    refine s_end (K15 _ _ ?_)
    refine wp_if F rfl ?_
    refine wp_skip (K14 _ _ ?_)
    refine wp_rs fun _ K16 => F.mv rfl fun a F => F.vl (geqF (by omega) rfl rfl) fun a F => ?_
    refine s_end (K16 _ _ ?_)
    refine wp_if F rfl ?_
    refine wp_skip (K10 _ _ ?_)
    refine wp_region_lit ?_
    refine F.vl (x_addn (i + 1) (by omega) (by omega) rfl rfl) fun a F => F.mv rfl fun a F => ?_
    refine s_end (hK' _ _ (by omega) ⟨vv, o2, zs, hO, hat, hne, by omega, by rw [pts, hp1, List.append_nil]; exact hP.mono (fun k (hk : b2 < k ∧ k ≠ o2 ∧ k < top) => (by omega : _ ∧ _ ∧ _)), m1, m2, by omega, ho2b, hB, F.sub _ rfl⟩)
   ·
    have hp1 : part1 i (gt ks i) = [.var i] := by rw [part1, if_neg (by omega), if_pos hg]
    refine wp_rs fun _ K17 => F.mv rfl fun a F => F.vl (x_build (vs := [(0, _), (1, _)]) rfl (b24_01 _ _ _)) fun a F => ?_
    refine s_alloc F (by decide) zero24 fun w14 b6 a eb6 m6 B15 zb6 F => ?_
    have sB15 := B15.size
    have hB := bt hB B15
    have m1 := m1.old B15
    have m2 := m2.old B15
    have hO := own_below hO B15
    have hP := hP.below B15
    refine s_putW F rfl rfl (size_wide wide24) m6 rfl (one3 rfl) fun w16 m6 o17 => ?_
    have so17 := o17.size
    have hB := hB.trans (o17.below (by omega))
    have m1 := m1.only o17 (by omega)
    have m2 := m2.only o17 (by omega)
    have hO := own_only hO o17 (fun e => by have := hat _ e; omega)
    have hP := hP.only o17 (fun k (hk : b2 < k ∧ k ≠ o2 ∧ k < top) => by omega)
    refine s_end (K17 _ _ ?_)
    refine wp_seq_k fun _ K18 => ?_
    refine wp_rs fun _ K19 => F.mv rfl fun a F => F.vl (gtrF (by omega) rfl rfl) fun a F => ?_
    refine s_end (K19 _ _ ?_)
    refine wp_if F rfl ?_
    refine wp_skip (K18 _ _ ?_)
    refine wp_rs fun _ K20 => F.mv rfl fun a F => F.vl (geqT (by omega) rfl rfl) fun a F => ?_
    refine s_end (K20 _ _ ?_)
    refine wp_if F rfl ?_
    refine wp_region_lit ?_
    refine F.mv rfl fun a F => F.vl (x_ldW wide24 m6 rfl rfl) fun a F => ?_
    refine s_litG [lv (2, (i : Int), .slice none 0 0)] el22 F (by decide) rfl (by simp [Value.cells, lc]) rfl (by decide) (by decide) fun w18 bl a ebl ml B19 zbl F => ?_
    have sB19 := B19.size
    have hB := bt hB B19
    have m1 := m1.old B19
    have m2 := m2.old B19
    have hO := own_below hO B19
    have hP := hP.below B19
    have ml : Blk w18 bl 24 (lc (2, (i : Int), .slice none 0 0)) := by simpa [Value.cells] using ml
    refine s_app1 (o := o2) el22 F (by decide) rfl rfl hO ml rfl (one3 rfl) hat (by omega) (by omega) (by decide) (by omega) fun v3 w20 a o3 hOn hOatn how hsrc k21 hkeep F => ?_
    have sk21 := k21.size
    have hB := k21.under hB (by omega)
    have m1 : Blk w20 b1 _ _ := (hkeep _ m1.lt hne).trans m1
    have m2 := m2.k2 k21 (by omega)
    have hP := hP.k2 k21 (fun k (hk : b2 < k ∧ k ≠ o2 ∧ k < top) => by omega)
    have hO := hOn
    have hO_at := hOatn
    have hneg : v3.ownBlock ≠ some b1 := fun h => by rcases hsrc b1 h with h | h; exact hne h; omega
    refine F.sg rfl fun a F => ?_
    refine s_end (K10 _ _ ?_)
    refine wp_region_lit ?_
    refine F.vl (x_addn (i + 1) (by omega) (by omega) rfl rfl) fun a F => F.mv rfl fun a F => ?_
    refine s_end (hK' _ _ (by omega) ⟨v3, o3, zs ++ [(2, (i : Int), .slice none 0 0)], by rw [fm3_app]; simpa using hO, hO_at, hneg, by omega, by rw [pts, hp1]; exact (hP.mono (fun k (hk : b2 < k ∧ k ≠ o2 ∧ k < top) => (by omega : _ ∧ _ ∧ _))).snoc (⟨rfl, rfl, Rd.nil _ _⟩), m1, m2, by omega, by omega, hB, F.sub _ rfl⟩)
   ·
    have hp1 : part1 i (gt ks i) = [.succ (gt ks i).toNat (.var i)] := by rw [part1, if_neg (by omega), if_neg (by omega)]
    refine wp_rs fun _ K21 => F.mv rfl fun a F => F.vl (x_build (vs := [(0, _), (1, _)]) rfl (b24_01 _ _ _)) fun a F => ?_
    refine s_alloc F (by decide) zero24 fun w22 b6 a eb6 m6 B23 zb6 F => ?_
    have sB23 := B23.size
    have hB := bt hB B23
    have m1 := m1.old B23
    have m2 := m2.old B23
    have hO := own_below hO B23
    have hP := hP.below B23
    refine s_putW F rfl rfl (size_wide wide24) m6 rfl (one3 rfl) fun w24 m6 o25 => ?_
    have so25 := o25.size
    have hB := hB.trans (o25.below (by omega))
    have m1 := m1.only o25 (by omega)
    have m2 := m2.only o25 (by omega)
    have hO := own_only hO o25 (fun e => by have := hat _ e; omega)
    have hP := hP.only o25 (fun k (hk : b2 < k ∧ k ≠ o2 ∧ k < top) => by omega)
    refine s_end (K21 _ _ ?_)
    refine wp_seq_k fun _ K22 => ?_
    refine wp_rs fun _ K23 => F.mv rfl fun a F => F.vl (gtrT (by omega) rfl rfl) fun a F => ?_
    refine s_end (K23 _ _ ?_)
    refine wp_if F rfl ?_
    refine wp_region_lit ?_
    refine F.mv rfl fun a F => F.vl (x_ldW wide24 m6 rfl rfl) fun a F => ?_
    refine s_litG [lv (2, (i : Int), .slice none 0 0)] el22 F (by decide) rfl (by simp [Value.cells, lc]) rfl (by decide) (by decide) fun w26 bs a ebs ms B27 zbs F => ?_
    have sB27 := B27.size
    have hB := bt hB B27
    have m1 := m1.old B27
    have m2 := m2.old B27
    have hO := own_below hO B27
    have hP := hP.below B27
    have m6 := m6.old B27
    have ms : Blk w26 bs 24 (lc (2, (i : Int), .slice none 0 0)) := by simpa [Value.cells] using ms
    refine F.vl (x_build (vs := [(0, _), (1, _), (2, _)]) rfl (b24_012 _ _ _ _ _ _)) fun a F => ?_
    refine s_putW F rfl rfl (size_wide wide24) m6 rfl (one3 rfl) fun w28 m6 o29 => ?_
    have so29 := o29.size
    have hB := hB.trans (o29.below (by omega))
    have m1 := m1.only o29 (by omega)
    have m2 := m2.only o29 (by omega)
    have hO := own_only hO o29 (fun e => by have := hat _ e; omega)
    have hP := hP.only o29 (fun k (hk : b2 < k ∧ k ≠ o2 ∧ k < top) => by omega)
    have ms := ms.only o29 (by omega)
    refine s_end (K22 _ _ ?_)
    refine wp_rs fun _ K24 => F.mv rfl fun a F => F.vl (geqT (by omega) rfl rfl) fun a F => ?_
    refine s_end (K24 _ _ ?_)
    refine wp_if F rfl ?_
    refine wp_region_lit ?_
    refine F.mv rfl fun a F => F.vl (x_ldW wide24 m6 rfl rfl) fun a F => ?_
    refine s_litG [lv (3, gt ks i, .slice (some ⟨bs, 0, none⟩) 1 1)] el22 F (by decide) rfl (by simp [Value.cells, lc]) rfl (by decide) (by decide) fun w30 bl a ebl ml B31 zbl F => ?_
    have sB31 := B31.size
    have hB := bt hB B31
    have m1 := m1.old B31
    have m2 := m2.old B31
    have hO := own_below hO B31
    have hP := hP.below B31
    have ms := ms.old B31
    have ml : Blk w30 bl 24 (lc (3, gt ks i, .slice (some ⟨bs, 0, none⟩) 1 1)) := by simpa [Value.cells] using ml
    refine s_app1 (o := o2) el22 F (by decide) rfl rfl hO ml rfl (one3 rfl) hat (by omega) (by omega) (by decide) (by omega) fun v3 w32 a o3 hOn hOatn how hsrc k33 hkeep F => ?_
    have sk33 := k33.size
    have hB := k33.under hB (by omega)
    have m1 : Blk w32 b1 _ _ := (hkeep _ m1.lt hne).trans m1
    have m2 := m2.k2 k33 (by omega)
    have hP := hP.k2 k33 (fun k (hk : b2 < k ∧ k ≠ o2 ∧ k < top) => by omega)
    have ms := ms.k2 k33 (by omega)
    have hO := hOn
    have hO_at := hOatn
    have hneg : v3.ownBlock ≠ some b1 := fun h => by rcases hsrc b1 h with h | h; exact hne h; omega
    refine F.sg rfl fun a F => ?_
    refine s_end (K10 _ _ ?_)
    refine wp_region_lit ?_
    refine F.vl (x_addn (i + 1) (by omega) (by omega) rfl rfl) fun a F => F.mv rfl fun a F => ?_
    refine s_end (hK' _ _ (by omega) ⟨v3, o3, zs ++ [(3, gt ks i, .slice (some ⟨bs, 0, none⟩) 1 1)], by rw [fm3_app]; simpa using hO, hO_at, hneg, by omega, by rw [pts, hp1]; exact (hP.mono (fun k (hk : b2 < k ∧ k ≠ o2 ∧ k < top) => (by omega : _ ∧ _ ∧ _))).snoc (⟨rfl, by show gt ks i = _; omega, (2, (i : Int), .slice none 0 0), Rd.blk (k := 3) ms rfl, fun j h => by cases h; show b2 < bs ∧ bs ≠ o3 ∧ bs < _; have := ms.lt; omega, ⟨rfl, rfl, Rd.nil _ _⟩⟩), m1, m2, by omega, by omega, hB, F.sub _ rfl⟩)
  ·
   obtain rfl : i = ks.length := by omega
   have hVp := Rd.own hO
   have hPp := hP.mono (B := fun k => w0.heap.size ≤ k ∧ k ≠ b2 ∧ k < wq.heap.size) (fun k (hk : b2 < k ∧ k ≠ o2 ∧ k < top) => (by omega : _ ∧ _ ∧ _))
   have hBP := Below.refl wq.heap.size wq
   have hppos := pts_pos (c := c) hTm
   have hPl := hPp.1
   obtain ⟨b8, off8, c8, z0, hve, hz0, hrow0⟩ := rd_row3 hVp (i := 0) (by omega)
   cases hve
   obtain ⟨p0, hp0e, hz0r⟩ := hPp.at hz0
   have h1z0 := hz0r.rs.one1
   clear hP
   refine wp_exit (K6 _ _ ?_)
   refine wp_rs fun _ K25 => F.mv rfl fun a F => F.vl (x_ixa rfl rfl (m_ixsK 0 Try.underlying22 el22.size rfl (by omega))) fun a F => F.vl (x_ldA wide24 (hrow0 _ hBP) rfl rfl) fun a F => ?_
   refine s_alloc F (by decide) zero24 fun w34 b7 a eb7 m7 B35 zb7 F => ?_
   have sB35 := B35.size
   have hB := bt hB B35
   have hBP := bt hBP B35
   have m2 := m2.old B35
   refine s_putW F rfl rfl (size_wide wide24) m7 rfl (one_lc h1z0) fun w36 m7 o37 => ?_
   have so37 := o37.size
   have hB := hB.trans (o37.below (by omega))
   have hBP := hBP.trans (o37.below (by omega))
   have m2 := m2.only o37 (by omega)
   refine s_end (K25 _ _ ?_)
   refine wp_seq_k fun _ K26 => ?_
   have hV2 := rd_tail hVp (by omega)
   obtain ⟨a2, ha2⟩ : ∃ a2, a2 = (if c8 = 1 then some (⟨b8, off8, none⟩ : Addr) else (some (⟨b8, off8, none⟩ : Addr)).map (·.add (1 * 3))) := ⟨_, rfl⟩
   rw [← ha2] at hV2
   have hdl : (zs.drop 1).length = zs.length - 1 := by rw [List.length_drop]
   have hb7 := m7.lt
   refine wp_rs fun _ K27 => F.mv rfl fun a F => F.vl (x_slice (v := .slice a2 (zs.length - 1) (c8 - 1)) (vlo := some (.int .i64 1)) (vhi := none) (vmx := none) rfl rfl rfl rfl (by rw [ha2]; exact m_sliceFK 1 Try.underlying22 el22.size rfl (by omega))) fun a F => F.vl (x_len Try.underlying22 rfl) fun a F => F.mv rfl fun a F => ?_
   refine s_end (K27 _ _ ?_)
   refine wp_block ?_
   refine wp_up (zs.length - 1) (fun i a w => ∃ z, Blk w b7 24 (lc z) ∧ RSn w (fun k => w0.heap.size ≤ k ∧ k ≠ b2 ∧ k ≠ b7) ((((pts c ks ks.length).drop 1).take i).foldl SL.mx p0) z ∧ Blk w b2 24 [.int .i64 0, .int .i64 0, .slice none 0 0] ∧ Below w0.heap.size w0 w ∧ Below wq.heap.size wq w ∧ Fs 64 a [(54, .int .i64 (i : Int)), (53, .int .i64 ((zs.length - 1 : Nat) : Int)), (52, .slice a2 (zs.length - 1) (c8 - 1)), (7, .pointer (some ⟨b7, 0, none⟩)), (2, .pointer (some ⟨b2, 0, none⟩))]) ⟨z0, m7, (hz0r.below hBP).mono (fun k h => ⟨h.1, h.2.1, by have := h.2.2; omega⟩), m2, hB, hBP, F.sub _ rfl⟩ ?_
   repeat clear F
   clear hB hBP m7 m2
   rintro i a w hi ⟨z, m7, hz, m2, hB, hBP, F⟩ K' hK'
   have sB := hB.size
   have sBP := hBP.size
   have hml := m7.lt
   obtain ⟨top2, htop2⟩ : ∃ h, h = w.heap.size := ⟨_, rfl⟩
   have hz := hz.valid.mono (B := fun k => w0.heap.size ≤ k ∧ k ≠ b2 ∧ k ≠ b7 ∧ k < top2) (fun k h => ⟨h.1.1, h.1.2.1, h.1.2.2, by have := h.2; omega⟩)
   refine wp_rs fun _ K28 => F.vl (x_lss (b := decide (i < zs.length - 1)) (decide_eq_decide.2 (by omega)) rfl rfl) fun a F => ?_
   refine s_end (K28 _ _ ?_)
   refine wp_seq_k fun _ K29 => ?_
   refine wp_iff F rfl (fun hc55 => ?_) (fun hc55 => ?_)
   ·
    obtain ⟨b9, off9, c9, y, hve, hy, hrow⟩ := rd_row3 hV2 (i := i) (by omega)
    rw [hdl] at hve
    cases hve
    have hy1 : zs[i + 1]? = some y := by rw [List.getElem?_drop, Nat.add_comm] at hy; exact hy
    obtain ⟨q, hq1, hyr⟩ := hPp.at hy1
    have hq2 : ((pts c ks ks.length).drop 1)[i]? = some q := by rw [List.getElem?_drop, Nat.add_comm]; exact hq1
    have h1y := hyr.rs.one1
    have h1z := hz.rs.one1
    refine wp_skip (K29 _ _ ?_)
    refine wp_seq_k fun _ K30 => ?_
    refine wp_block ?_
    refine wp_rs fun _ K31 => F.vl (x_ixa rfl rfl (m_ixsK i Try.underlying22 el22.size rfl (by omega))) fun a F => F.vl (x_ldA wide24 (hrow _ hBP) rfl rfl) fun a F => ?_
    refine s_alloc F (by decide) zero24 fun w38 b9 a eb9 m9 B39 zb9 F => ?_
    have sB39 := B39.size
    have hB := bt hB B39
    have hBP := bt hBP B39
    have m7 := m7.old B39
    have m2 := m2.old B39
    have hz := hz.below B39
    refine s_putW F rfl rfl (size_wide wide24) m9 rfl (one_lc h1y) fun w40 m9 o41 => ?_
    have so41 := o41.size
    have hB := hB.trans (o41.below (by omega))
    have hBP := hBP.trans (o41.below (by omega))
    have m7 := m7.only o41 (by omega)
    have m2 := m2.only o41 (by omega)
    have hz := hz.only o41 (fun k (hk : w0.heap.size ≤ k ∧ k ≠ b2 ∧ k ≠ b7 ∧ k < top2) => by omega)
    refine s_end (K31 _ _ ?_)
    refine wp_region_lit ?_
    refine F.vl (x_ldW wide24 m7 rfl rfl) fun a F => F.vl (x_ldW wide24 m9 rfl rfl) fun a F => ?_
    refine s_litG [lv z, lv y] el22 F (by decide) rfl (by simp [Value.cells, lc]) rfl (by decide) (by decide) fun w42 bl a ebl ml B43 zbl F => ?_
    have sB43 := B43.size
    have hB := bt hB B43
    have hBP := bt hBP B43
    have m7 := m7.old B43
    have m2 := m2.old B43
    have hz := hz.below B43
    refine F.vl (x_build (vs := [(0, _), (2, _)]) rfl (b24_02 _ _ _ _ _)) fun a F => ?_
    refine s_putW (vs := lc (4, 0, .slice (some ⟨bl, 0, none⟩) 2 2)) F rfl rfl (size_wide wide24) m7 rfl (one3 rfl) fun w44 m7 o45 => ?_
    have so45 := o45.size
    have hB := hB.trans (o45.below (by omega))
    have hBP := hBP.trans (o45.below (by omega))
    have m2 := m2.only o45 (by omega)
    have hz := hz.only o45 (fun k (hk : w0.heap.size ≤ k ∧ k ≠ b2 ∧ k ≠ b7 ∧ k < top2) => by omega)
    have ml := ml.only o45 (by omega)
    have hz : RSn w44 (fun k => w0.heap.size ≤ k ∧ k ≠ b2 ∧ k ≠ b7) (.mx ((((pts c ks ks.length).drop 1).take i).foldl SL.mx p0) q) (4, 0, .slice (some ⟨bl, 0, none⟩) 2 2) := ⟨rfl, z, y, Rd.blk (k := 3) (by simpa [Value.cells] using ml) (by simp [lc]), fun j h => by cases h; show _ ≤ bl ∧ bl ≠ b2 ∧ bl ≠ b7; omega, hz.mono (fun k h => ⟨h.1, h.2.1, h.2.2.1⟩), (hyr.below hBP).mono (fun k h => ⟨h.1, h.2.1, by have := h.2.2; omega⟩)⟩
    refine s_end (K30 _ _ ?_)
    refine wp_region_lit ?_
    refine F.vl (x_addn (i + 1) (by omega) (by omega) rfl rfl) fun a F => F.mv rfl fun a F => ?_
    refine s_end (hK' _ _ (by omega) ⟨_, m7, by rw [fold_snoc hq2]; exact hz, m2, hB, hBP, F.sub _ rfl⟩)
   ·
    have hPl2 := hPp.1
    have hall : ((pts c ks ks.length).drop 1).take i = (pts c ks ks.length).drop 1 := List.take_of_length_le (by rw [List.length_drop]; omega)
    rw [hall, ← levF_eq rfl hp0e] at hz
    have h1z := hz.rs.one1
    refine wp_exit (K26 _ _ ?_)
    refine wp_rs fun _ K32 => F.vl (x_ldW wide24 m7 rfl rfl) fun a F => ?_
    refine s_putW F rfl rfl (size_wide wide24) m2 rfl (one_lc h1z) fun w46 m2 o47 => ?_
    have so47 := o47.size
    have hB := hB.trans (o47.below (by omega))
    have hz := hz.only o47 (fun k (hk : w0.heap.size ≤ k ∧ k ≠ b2 ∧ k ≠ b7 ∧ k < top2) => by omega)
    refine s_end (K32 _ _ ?_)
    refine wp_ret (res_cell F rfl rfl m2 wide24 ⟨_, rfl, ⟨z, rfl, hz.mono (fun k h => h.1)⟩, hB⟩)
 ·
  have hp0 : pts c ks 0 = [.num c.toNat] := by rw [pts, if_pos (.inr (List.eq_nil_of_length_eq_zero hq.2))]
  refine wp_rs fun _ K33 => F.vl (x_fa0 fa36_0 rfl) fun a F => F.ld m1 flat3 rfl rfl fun a F => F.vl (gtrF (by omega) rfl rfl) fun a F => F.mv rfl fun a F => s_grd 13 F rfl rfl rfl <| F.vl (x_fa0 fa36_1 rfl) fun a F => s_grd 13 F rfl rfl rfl <| F.ld m1 flat29 rfl rfl fun a F => s_grd 13 F rfl rfl rfl <| F.vl (x_len Try.underlying92 rfl) fun a F => s_grd 13 F rfl rfl rfl <| F.vl (eqlT (by omega) rfl rfl) fun a F => F.vl (x_pick (b := false) rfl rfl) fun a F => ?_
  refine s_end (K33 _ _ ?_)
  refine wp_if F rfl ?_
  refine wp_region_lit ?_
  refine F.mv rfl fun a F => F.vl (x_fa0 fa36_0 rfl) fun a F => F.ld m1 flat3 rfl rfl fun a F => F.vl (x_build (vs := [(0, _), (1, _)]) rfl (b24_01 _ _ _)) fun a F => ?_
  refine s_litG [lv (1, c, .slice none 0 0)] el22 F (by decide) rfl (by simp [Value.cells, lc]) rfl (by decide) (by decide) fun w48 bl a ebl ml B49 zbl F => ?_
  have sB49 := B49.size
  have hB := bt hB B49
  have m1 := m1.old B49
  have m2 := m2.old B49
  have ml : Blk w48 bl 24 (lc (1, c, .slice none 0 0)) := by simpa [Value.cells] using ml
  have hO : w48.ownsRow w0.heap.size 24 3 (.slice none 0 0) 0 [] := World.ownsRow_nil _ _ _ _
  have hat : ∀ j, (Value.slice none 0 0).ownBlock = some j → j = b1 := fun j h => by cases h
  have hne : (Value.slice none 0 0).ownBlock ≠ some b1 := fun h => by cases h
  have hm1 := m1.lt
  refine s_app1 (o := b1) el22 F (by decide) rfl rfl hO ml rfl (one3 rfl) hat (by omega) (by omega) (by decide) (by omega) fun v3 w50 a o3 hOn hOatn how hsrc k51 hkeep F => ?_
  have sk51 := k51.size
  have hB := k51.under hB (by omega)
  have m1 : Blk w50 b1 _ _ := (hkeep _ m1.lt hne).trans m1
  have m2 := m2.k2 k51 (by omega)
  have hO := hOn
  have hO_at := hOatn
  have hneg : v3.ownBlock ≠ some b1 := fun h => by rcases hsrc b1 h with h | h; exact hne h; omega
  refine F.sg rfl fun a F => ?_
  refine s_end (K3 _ _ ?_)
  refine wp_seq_k fun _ K34 => ?_
  refine wp_rs fun _ K35 => F.vl (x_fa0 fa36_1 rfl) fun a F => F.ld m1 flat29 rfl rfl fun a F => F.vl (x_len Try.underlying92 rfl) fun a F => F.mv rfl fun a F => ?_
  refine s_end (K35 _ _ ?_)
  refine wp_block ?_
  have hJ : ∃ v' o' zs, w50.ownsRow w0.heap.size 24 3 v' zs.length (zs.flatMap lc) ∧ (∀ j, v'.ownBlock = some j → j = o') ∧ v'.ownBlock ≠ some b1 ∧ (w0.heap.size ≤ o' ∧ o' < w50.heap.size) ∧ PL w50 (fun k => b2 < k ∧ k ≠ o' ∧ k < w50.heap.size) zs (pts c ks 0) ∧ v3 = v' ∧ (o' = b1 ∨ b2 < o') := ⟨v3, o3, [(1, c, .slice none 0 0)], by simpa using hO, hO_at, hneg, by omega, by rw [hp0]; exact PL.snoc PL.nil ⟨rfl, by show c = _; omega, Rd.nil _ _⟩, rfl, by omega⟩
  obtain ⟨vj, oj, zj, hj1, hj2, hj3, hj4, hj5, hj6, hj7⟩ := hJ
  rw [hj6] at F
  refine wp_up ks.length (fun i a w => ∃ v' o' zs, w.ownsRow w0.heap.size 24 3 v' zs.length (zs.flatMap lc) ∧ (∀ j, v'.ownBlock = some j → j = o') ∧ v'.ownBlock ≠ some b1 ∧ (w0.heap.size ≤ o' ∧ o' < w.heap.size) ∧ PL w (fun k => b2 < k ∧ k ≠ o' ∧ k < w.heap.size) zs (pts c ks i) ∧ Blk w b1 94 [.int .i64 c, .slice av ks.length cv] ∧ Blk w b2 24 [.int .i64 0, .int .i64 0, .slice none 0 0] ∧ b2 < o' + b2 + 1 ∧ (o' = b1 ∨ b2 < o') ∧ Below w0.heap.size w0 w ∧ Fs 64 a [(28, .int .i64 (i : Int)), (27, .int .i64 (ks.length : Int)), (26, .slice av ks.length cv), (3, v'), (2, .pointer (some ⟨b2, 0, none⟩))]) ⟨vj, oj, zj, hj1, hj2, hj3, hj4, hj5, m1, m2, by omega, hj7, hB, F.sub _ rfl⟩ ?_
  repeat clear F
  clear hB m1 m2
  rintro i a wq hi ⟨vv, o2, zs, hO, hat, hne, hlo, hP, m1, m2, _, ho2b, hB, F⟩ K' hK'
  have sB := hB.size
  have hm1 := m1.lt
  have hm2 := m2.lt
  obtain ⟨top, htop⟩ : ∃ h, h = wq.heap.size := ⟨_, rfl⟩
  rw [← htop] at hP
  have hPl := hP.1
  have hple := pts_le c ks i
  refine wp_rs fun _ K36 => F.vl (x_lss rfl rfl rfl) fun a F => ?_
  refine s_end (K36 _ _ ?_)
  refine wp_seq_k fun _ K37 => ?_
  refine wp_iff F rfl (fun hc29 => ?_) (fun hc29 => ?_)
  ·
   have hgi := hLo.gt i
   obtain ⟨b6, off6, c6, hve, hrowk⟩ := rd_rowI hV (i := i) (by omega)
   cases hve
   refine wp_skip (K37 _ _ ?_)
   refine wp_seq_k fun _ K38 => ?_
   refine wp_block ?_
   refine wp_rs fun _ K39 => F.mv rfl fun a F => F.vl (x_ixa rfl rfl (m_ixs i Try.underlying92 el29.size rfl (by omega))) fun a F => F.vl (x_load rfl (m_load flat3 (hrowk _ hB))) fun a F => F.sg rfl fun a F => F.sg rfl fun a F => ?_
   refine s_end (K39 _ _ ?_)
   rcases (show gt ks i = -1 ∨ gt ks i = 0 ∨ 0 < gt ks i by omega) with hg | hg | hg
   ·
    have hp1 : part1 i (gt ks i) = [] := by rw [part1, if_pos (by omega)]
    refine wp_rs fun _ K41 => F.mv rfl fun a F => F.vl (x_build (vs := [(0, _), (1, _)]) rfl (b24_01 _ _ _)) fun a F => ?_
    refine s_alloc F (by decide) zero24 fun w52 b6 a eb6 m6 B53 zb6 F => ?_
    have sB53 := B53.size
    have hB := bt hB B53
    have m1 := m1.old B53
    have m2 := m2.old B53
    have hO := own_below hO B53
    have hP := hP.below B53
    refine s_putW F rfl rfl (size_wide wide24) m6 rfl (one3 rfl) fun w54 m6 o55 => ?_
    have so55 := o55.size
    have hB := hB.trans (o55.below (by omega))
    have m1 := m1.only o55 (by omega)
    have m2 := m2.only o55 (by omega)
    have hO := own_only hO o55 (fun e => by have := hat _ e; omega)
    have hP := hP.only o55 (fun k (hk : b2 < k ∧ k ≠ o2 ∧ k < top) => by omega)
    refine s_end (K41 _ _ ?_)
    refine wp_seq_k fun _ K42 => ?_
    refine wp_rs fun _ K43 => F.mv rfl fun a F => F.vl (gtrF (by omega) rfl rfl) fun a F => ?_
    refine s_end (K43 _ _ ?_)
    refine wp_if F rfl ?_
    refine wp_skip (K42 _ _ ?_)
    refine wp_rs fun _ K44 => F.mv rfl fun a F => F.vl (geqF (by omega) rfl rfl) fun a F => ?_
    refine s_end (K44 _ _ ?_)
    refine wp_if F rfl ?_
    refine wp_skip (K38 _ _ ?_)
    refine wp_region_lit ?_
    refine F.vl (x_addn (i + 1) (by omega) (by omega) rfl rfl) fun a F => F.mv rfl fun a F => ?_
    refine s_end (hK' _ _ (by omega) ⟨vv, o2, zs, hO, hat, hne, by omega, by rw [pts, hp1, List.append_nil]; exact hP.mono (fun k (hk : b2 < k ∧ k ≠ o2 ∧ k < top) => (by omega : _ ∧ _ ∧ _)), m1, m2, by omega, ho2b, hB, F.sub _ rfl⟩)
   ·
    have hp1 : part1 i (gt ks i) = [.var i] := by rw [part1, if_neg (by omega), if_pos hg]
    refine wp_rs fun _ K45 => F.mv rfl fun a F => F.vl (x_build (vs := [(0, _), (1, _)]) rfl (b24_01 _ _ _)) fun a F => ?_
    refine s_alloc F (by decide) zero24 fun w56 b6 a eb6 m6 B57 zb6 F => ?_
    have sB57 := B57.size
    have hB := bt hB B57
    have m1 := m1.old B57
    have m2 := m2.old B57
    have hO := own_below hO B57
    have hP := hP.below B57
    refine s_putW F rfl rfl (size_wide wide24) m6 rfl (one3 rfl) fun w58 m6 o59 => ?_
    have so59 := o59.size
    have hB := hB.trans (o59.below (by omega))
    have m1 := m1.only o59 (by omega)
    have m2 := m2.only o59 (by omega)
    have hO := own_only hO o59 (fun e => by have := hat _ e; omega)
    have hP := hP.only o59 (fun k (hk : b2 < k ∧ k ≠ o2 ∧ k < top) => by omega)
    refine s_end (K45 _ _ ?_)
    refine wp_seq_k fun _ K46 => ?_
    refine wp_rs fun _ K47 => F.mv rfl fun a F => F.vl (gtrF (by omega) rfl rfl) fun a F => ?_
    refine s_end (K47 _ _ ?_)
    refine wp_if F rfl ?_
    refine wp_skip (K46 _ _ ?_)
    refine wp_rs fun _ K48 => F.mv rfl fun a F => F.vl (geqT (by omega) rfl rfl) fun a F => ?_
    refine s_end (K48 _ _ ?_)
    refine wp_if F rfl ?_
    refine wp_region_lit ?_
    refine F.mv rfl fun a F => F.vl (x_ldW wide24 m6 rfl rfl) fun a F => ?_
    refine s_litG [lv (2, (i : Int), .slice none 0 0)] el22 F (by decide) rfl (by simp [Value.cells, lc]) rfl (by decide) (by decide) fun w60 bl a ebl ml B61 zbl F => ?_
    have sB61 := B61.size
    have hB := bt hB B61
    have m1 := m1.old B61
    have m2 := m2.old B61
    have hO := own_below hO B61
    have hP := hP.below B61
    have ml : Blk w60 bl 24 (lc (2, (i : Int), .slice none 0 0)) := by simpa [Value.cells] using ml
    refine s_app1 (o := o2) el22 F (by decide) rfl rfl hO ml rfl (one3 rfl) hat (by omega) (by omega) (by decide) (by omega) fun v3 w62 a o3 hOn hOatn how hsrc k63 hkeep F => ?_
    have sk63 := k63.size
    have hB := k63.under hB (by omega)
    have m1 : Blk w62 b1 _ _ := (hkeep _ m1.lt hne).trans m1
    have m2 := m2.k2 k63 (by omega)
    have hP := hP.k2 k63 (fun k (hk : b2 < k ∧ k ≠ o2 ∧ k < top) => by omega)
    have hO := hOn
    have hO_at := hOatn
    have hneg : v3.ownBlock ≠ some b1 := fun h => by rcases hsrc b1 h with h | h; exact hne h; omega
    refine F.sg rfl fun a F => ?_
    refine s_end (K38 _ _ ?_)
    refine wp_region_lit ?_
    refine F.vl (x_addn (i + 1) (by omega) (by omega) rfl rfl) fun a F => F.mv rfl fun a F => ?_
    refine s_end (hK' _ _ (by omega) ⟨v3, o3, zs ++ [(2, (i : Int), .slice none 0 0)], by rw [fm3_app]; simpa using hO, hO_at, hneg, by omega, by rw [pts, hp1]; exact (hP.mono (fun k (hk : b2 < k ∧ k ≠ o2 ∧ k < top) => (by omega : _ ∧ _ ∧ _))).snoc (⟨rfl, rfl, Rd.nil _ _⟩), m1, m2, by omega, by omega, hB, F.sub _ rfl⟩)
   ·
    have hp1 : part1 i (gt ks i) = [.succ (gt ks i).toNat (.var i)] := by rw [part1, if_neg (by omega), if_neg (by omega)]
    refine wp_rs fun _ K49 => F.mv rfl fun a F => F.vl (x_build (vs := [(0, _), (1, _)]) rfl (b24_01 _ _ _)) fun a F => ?_
    refine s_alloc F (by decide) zero24 fun w64 b6 a eb6 m6 B65 zb6 F => ?_
    have sB65 := B65.size
    have hB := bt hB B65
    have m1 := m1.old B65
    have m2 := m2.old B65
    have hO := own_below hO B65
    have hP := hP.below B65
    refine s_putW F rfl rfl (size_wide wide24) m6 rfl (one3 rfl) fun w66 m6 o67 => ?_
    have so67 := o67.size
    have hB := hB.trans (o67.below (by omega))
    have m1 := m1.only o67 (by omega)
    have m2 := m2.only o67 (by omega)
    have hO := own_only hO o67 (fun e => by have := hat _ e; omega)
    have hP := hP.only o67 (fun k (hk : b2 < k ∧ k ≠ o2 ∧ k < top) => by omega)
    refine s_end (K49 _ _ ?_)
    refine wp_seq_k fun _ K50 => ?_
    refine wp_rs fun _ K51 => F.mv rfl fun a F => F.vl (gtrT (by omega) rfl rfl) fun a F => ?_
    refine s_end (K51 _ _ ?_)
    refine wp_if F rfl ?_
    refine wp_region_lit ?_
    refine F.mv rfl fun a F => F.vl (x_ldW wide24 m6 rfl rfl) fun a F => ?_
    refine s_litG [lv (2, (i : Int), .slice none 0 0)] el22 F (by decide) rfl (by simp [Value.cells, lc]) rfl (by decide) (by decide) fun w68 bs a ebs ms B69 zbs F => ?_
    have sB69 := B69.size
    have hB := bt hB B69
    have m1 := m1.old B69
    have m2 := m2.old B69
    have hO := own_below hO B69
    have hP := hP.below B69
    have m6 := m6.old B69
    have ms : Blk w68 bs 24 (lc (2, (i : Int), .slice none 0 0)) := by simpa [Value.cells] using ms
    refine F.vl (x_build (vs := [(0, _), (1, _), (2, _)]) rfl (b24_012 _ _ _ _ _ _)) fun a F => ?_
    refine s_putW F rfl rfl (size_wide wide24) m6 rfl (one3 rfl) fun w70 m6 o71 => ?_
    have so71 := o71.size
    have hB := hB.trans (o71.below (by omega))
    have m1 := m1.only o71 (by omega)
    have m2 := m2.only o71 (by omega)
    have hO := own_only hO o71 (fun e => by have := hat _ e; omega)
    have hP := hP.only o71 (fun k (hk : b2 < k ∧ k ≠ o2 ∧ k < top) => by omega)
    have ms := ms.only o71 (by omega)
    refine s_end (K50 _ _ ?_)
    refine wp_rs fun _ K52 => F.mv rfl fun a F => F.vl (geqT (by omega) rfl rfl) fun a F => ?_
    refine s_end (K52 _ _ ?_)
    refine wp_if F rfl ?_
    refine wp_region_lit ?_
    refine F.mv rfl fun a F => F.vl (x_ldW wide24 m6 rfl rfl) fun a F => ?_
    refine s_litG [lv (3, gt ks i, .slice (some ⟨bs, 0, none⟩) 1 1)] el22 F (by decide) rfl (by simp [Value.cells, lc]) rfl (by decide) (by decide) fun w72 bl a ebl ml B73 zbl F => ?_
    have sB73 := B73.size
    have hB := bt hB B73
    have m1 := m1.old B73
    have m2 := m2.old B73
    have hO := own_below hO B73
    have hP := hP.below B73
    have ms := ms.old B73
    have ml : Blk w72 bl 24 (lc (3, gt ks i, .slice (some ⟨bs, 0, none⟩) 1 1)) := by simpa [Value.cells] using ml
    refine s_app1 (o := o2) el22 F (by decide) rfl rfl hO ml rfl (one3 rfl) hat (by omega) (by omega) (by decide) (by omega) fun v3 w74 a o3 hOn hOatn how hsrc k75 hkeep F => ?_
    have sk75 := k75.size
    have hB := k75.under hB (by omega)
    have m1 : Blk w74 b1 _ _ := (hkeep _ m1.lt hne).trans m1
    have m2 := m2.k2 k75 (by omega)
    have hP := hP.k2 k75 (fun k (hk : b2 < k ∧ k ≠ o2 ∧ k < top) => by omega)
    have ms := ms.k2 k75 (by omega)
    have hO := hOn
    have hO_at := hOatn
    have hneg : v3.ownBlock ≠ some b1 := fun h => by rcases hsrc b1 h with h | h; exact hne h; omega
    refine F.sg rfl fun a F => ?_
    refine s_end (K38 _ _ ?_)
    refine wp_region_lit ?_
    refine F.vl (x_addn (i + 1) (by omega) (by omega) rfl rfl) fun a F => F.mv rfl fun a F => ?_
    refine s_end (hK' _ _ (by omega) ⟨v3, o3, zs ++ [(3, gt ks i, .slice (some ⟨bs, 0, none⟩) 1 1)], by rw [fm3_app]; simpa using hO, hO_at, hneg, by omega, by rw [pts, hp1]; exact (hP.mono (fun k (hk : b2 < k ∧ k ≠ o2 ∧ k < top) => (by omega : _ ∧ _ ∧ _))).snoc (⟨rfl, by show gt ks i = _; omega, (2, (i : Int), .slice none 0 0), Rd.blk (k := 3) ms rfl, fun j h => by cases h; show b2 < bs ∧ bs ≠ o3 ∧ bs < _; have := ms.lt; omega, ⟨rfl, rfl, Rd.nil _ _⟩⟩), m1, m2, by omega, by omega, hB, F.sub _ rfl⟩)
  ·
   obtain rfl : i = ks.length := by omega
   have hVp := Rd.own hO
   have hPp := hP.mono (B := fun k => w0.heap.size ≤ k ∧ k ≠ b2 ∧ k < wq.heap.size) (fun k (hk : b2 < k ∧ k ≠ o2 ∧ k < top) => (by omega : _ ∧ _ ∧ _))
   have hBP := Below.refl wq.heap.size wq
   have hppos := pts_pos (c := c) hTm
   have hPl := hPp.1
   obtain ⟨b8, off8, c8, z0, hve, hz0, hrow0⟩ := rd_row3 hVp (i := 0) (by omega)
   cases hve
   obtain ⟨p0, hp0e, hz0r⟩ := hPp.at hz0
   have h1z0 := hz0r.rs.one1
   clear hP
   refine wp_exit (K34 _ _ ?_)
   refine wp_rs fun _ K53 => F.mv rfl fun a F => F.vl (x_ixa rfl rfl (m_ixsK 0 Try.underlying22 el22.size rfl (by omega))) fun a F => F.vl (x_ldA wide24 (hrow0 _ hBP) rfl rfl) fun a F => ?_
   refine s_alloc F (by decide) zero24 fun w76 b7 a eb7 m7 B77 zb7 F => ?_
   have sB77 := B77.size
   have hB := bt hB B77
   have hBP := bt hBP B77
   have m2 := m2.old B77
   refine s_putW F rfl rfl (size_wide wide24) m7 rfl (one_lc h1z0) fun w78 m7 o79 => ?_
   have so79 := o79.size
   have hB := hB.trans (o79.below (by omega))
   have hBP := hBP.trans (o79.below (by omega))
   have m2 := m2.only o79 (by omega)
   refine s_end (K53 _ _ ?_)
   refine wp_seq_k fun _ K54 => ?_
   have hV2 := rd_tail hVp (by omega)
   obtain ⟨a2, ha2⟩ : ∃ a2, a2 = (if c8 = 1 then some (⟨b8, off8, none⟩ : Addr) else (some (⟨b8, off8, none⟩ : Addr)).map (·.add (1 * 3))) := ⟨_, rfl⟩
   rw [← ha2] at hV2
   have hdl : (zs.drop 1).length = zs.length - 1 := by rw [List.length_drop]
   have hb7 := m7.lt
   refine wp_rs fun _ K55 => F.mv rfl fun a F => F.vl (x_slice (v := .slice a2 (zs.length - 1) (c8 - 1)) (vlo := some (.int .i64 1)) (vhi := none) (vmx := none) rfl rfl rfl rfl (by rw [ha2]; exact m_sliceFK 1 Try.underlying22 el22.size rfl (by omega))) fun a F => F.vl (x_len Try.underlying22 rfl) fun a F => F.mv rfl fun a F => ?_
   refine s_end (K55 _ _ ?_)
   refine wp_block ?_
   refine wp_up (zs.length - 1) (fun i a w => ∃ z, Blk w b7 24 (lc z) ∧ RSn w (fun k => w0.heap.size ≤ k ∧ k ≠ b2 ∧ k ≠ b7) ((((pts c ks ks.length).drop 1).take i).foldl SL.mx p0) z ∧ Blk w b2 24 [.int .i64 0, .int .i64 0, .slice none 0 0] ∧ Below w0.heap.size w0 w ∧ Below wq.heap.size wq w ∧ Fs 64 a [(54, .int .i64 (i : Int)), (53, .int .i64 ((zs.length - 1 : Nat) : Int)), (52, .slice a2 (zs.length - 1) (c8 - 1)), (7, .pointer (some ⟨b7, 0, none⟩)), (2, .pointer (some ⟨b2, 0, none⟩))]) ⟨z0, m7, (hz0r.below hBP).mono (fun k h => ⟨h.1, h.2.1, by have := h.2.2; omega⟩), m2, hB, hBP, F.sub _ rfl⟩ ?_
   repeat clear F
   clear hB hBP m7 m2
   rintro i a w hi ⟨z, m7, hz, m2, hB, hBP, F⟩ K' hK'
   have sB := hB.size
   have sBP := hBP.size
   have hml := m7.lt
   obtain ⟨top2, htop2⟩ : ∃ h, h = w.heap.size := ⟨_, rfl⟩
   have hz := hz.valid.mono (B := fun k => w0.heap.size ≤ k ∧ k ≠ b2 ∧ k ≠ b7 ∧ k < top2) (fun k h => ⟨h.1.1, h.1.2.1, h.1.2.2, by have := h.2; omega⟩)
   refine wp_rs fun _ K56 => F.vl (x_lss (b := decide (i < zs.length - 1)) (decide_eq_decide.2 (by omega)) rfl rfl) fun a F => ?_
   refine s_end (K56 _ _ ?_)
   refine wp_seq_k fun _ K57 => ?_
   refine wp_iff F rfl (fun hc55 => ?_) (fun hc55 => ?_)
   ·
    obtain ⟨b9, off9, c9, y, hve, hy, hrow⟩ := rd_row3 hV2 (i := i) (by omega)
    rw [hdl] at hve
    cases hve
    have hy1 : zs[i + 1]? = some y := by rw [List.getElem?_drop, Nat.add_comm] at hy; exact hy
    obtain ⟨q, hq1, hyr⟩ := hPp.at hy1
    have hq2 : ((pts c ks ks.length).drop 1)[i]? = some q := by rw [List.getElem?_drop, Nat.add_comm]; exact hq1
    have h1y := hyr.rs.one1
    have h1z := hz.rs.one1
    refine wp_skip (K57 _ _ ?_)
    refine wp_seq_k fun _ K58 => ?_
    refine wp_block ?_
    refine wp_rs fun _ K59 => F.vl (x_ixa rfl rfl (m_ixsK i Try.underlying22 el22.size rfl (by omega))) fun a F => F.vl (x_ldA wide24 (hrow _ hBP) rfl rfl) fun a F => ?_
    refine s_alloc F (by decide) zero24 fun w80 b9 a eb9 m9 B81 zb9 F => ?_
    have sB81 := B81.size
    have hB := bt hB B81
    have hBP := bt hBP B81
    have m7 := m7.old B81
    have m2 := m2.old B81
    have hz := hz.below B81
    refine s_putW F rfl rfl (size_wide wide24) m9 rfl (one_lc h1y) fun w82 m9 o83 => ?_
    have so83 := o83.size
    have hB := hB.trans (o83.below (by omega))
    have hBP := hBP.trans (o83.below (by omega))
    have m7 := m7.only o83 (by omega)
    have m2 := m2.only o83 (by omega)
    have hz := hz.only o83 (fun k (hk : w0.heap.size ≤ k ∧ k ≠ b2 ∧ k ≠ b7 ∧ k < top2) => by omega)
    refine s_end (K59 _ _ ?_)
    refine wp_region_lit ?_
    refine F.vl (x_ldW wide24 m7 rfl rfl) fun a F => F.vl (x_ldW wide24 m9 rfl rfl) fun a F => ?_
    refine s_litG [lv z, lv y] el22 F (by decide) rfl (by simp [Value.cells, lc]) rfl (by decide) (by decide) fun w84 bl a ebl ml B85 zbl F => ?_
    have sB85 := B85.size
    have hB := bt hB B85
    have hBP := bt hBP B85
    have m7 := m7.old B85
    have m2 := m2.old B85
    have hz := hz.below B85
    refine F.vl (x_build (vs := [(0, _), (2, _)]) rfl (b24_02 _ _ _ _ _)) fun a F => ?_
    refine s_putW (vs := lc (4, 0, .slice (some ⟨bl, 0, none⟩) 2 2)) F rfl rfl (size_wide wide24) m7 rfl (one3 rfl) fun w86 m7 o87 => ?_
    have so87 := o87.size
    have hB := hB.trans (o87.below (by omega))
    have hBP := hBP.trans (o87.below (by omega))
    have m2 := m2.only o87 (by omega)
    have hz := hz.only o87 (fun k (hk : w0.heap.size ≤ k ∧ k ≠ b2 ∧ k ≠ b7 ∧ k < top2) => by omega)
    have ml := ml.only o87 (by omega)
    have hz : RSn w86 (fun k => w0.heap.size ≤ k ∧ k ≠ b2 ∧ k ≠ b7) (.mx ((((pts c ks ks.length).drop 1).take i).foldl SL.mx p0) q) (4, 0, .slice (some ⟨bl, 0, none⟩) 2 2) := ⟨rfl, z, y, Rd.blk (k := 3) (by simpa [Value.cells] using ml) (by simp [lc]), fun j h => by cases h; show _ ≤ bl ∧ bl ≠ b2 ∧ bl ≠ b7; omega, hz.mono (fun k h => ⟨h.1, h.2.1, h.2.2.1⟩), (hyr.below hBP).mono (fun k h => ⟨h.1, h.2.1, by have := h.2.2; omega⟩)⟩
    refine s_end (K58 _ _ ?_)
    refine wp_region_lit ?_
    refine F.vl (x_addn (i + 1) (by omega) (by omega) rfl rfl) fun a F => F.mv rfl fun a F => ?_
    refine s_end (hK' _ _ (by omega) ⟨_, m7, by rw [fold_snoc hq2]; exact hz, m2, hB, hBP, F.sub _ rfl⟩)
   ·
    have hPl2 := hPp.1
    have hall : ((pts c ks ks.length).drop 1).take i = (pts c ks ks.length).drop 1 := List.take_of_length_le (by rw [List.length_drop]; omega)
    rw [hall, ← levF_eq rfl hp0e] at hz
    have h1z := hz.rs.one1
    refine wp_exit (K54 _ _ ?_)
    refine wp_rs fun _ K60 => F.vl (x_ldW wide24 m7 rfl rfl) fun a F => ?_
    refine s_putW F rfl rfl (size_wide wide24) m2 rfl (one_lc h1z) fun w88 m2 o89 => ?_
    have so89 := o89.size
    have hB := hB.trans (o89.below (by omega))
    have hz := hz.only o89 (fun k (hk : w0.heap.size ≤ k ∧ k ≠ b2 ∧ k ≠ b7 ∧ k < top2) => by omega)
    refine s_end (K60 _ _ ?_)
    refine wp_ret (res_cell F rfl rfl m2 wide24 ⟨_, rfl, ⟨z, rfl, hz.mono (fun k h => h.1)⟩, hB⟩)
 ·
  have hp0 : pts c ks 0 = [] := by rw [pts, if_neg]; rintro (h | h); exact h hq.1; exact hq.2 (by rw [h]; rfl)
  refine wp_rs fun _ K61 => F.vl (x_fa0 fa36_0 rfl) fun a F => F.ld m1 flat3 rfl rfl fun a F => F.vl (gtrF (by omega) rfl rfl) fun a F => F.mv rfl fun a F => s_grd 13 F rfl rfl rfl <| F.vl (x_fa0 fa36_1 rfl) fun a F => s_grd 13 F rfl rfl rfl <| F.ld m1 flat29 rfl rfl fun a F => s_grd 13 F rfl rfl rfl <| F.vl (x_len Try.underlying92 rfl) fun a F => s_grd 13 F rfl rfl rfl <| F.vl (eqlF (by omega) rfl rfl) fun a F => F.vl (x_pick (b := false) rfl rfl) fun a F => ?_
  refine s_end (K61 _ _ ?_)
  refine wp_if F rfl ?_
  refine wp_skip (K3 _ _ ?_)
  refine wp_seq_k fun _ K62 => ?_
  refine wp_rs fun _ K63 => F.vl (x_fa0 fa36_1 rfl) fun a F => F.ld m1 flat29 rfl rfl fun a F => F.vl (x_len Try.underlying92 rfl) fun a F => F.mv rfl fun a F => ?_
  refine s_end (K63 _ _ ?_)
  refine wp_block ?_
  have hJ : ∃ v' o' zs, w4.ownsRow w0.heap.size 24 3 v' zs.length (zs.flatMap lc) ∧ (∀ j, v'.ownBlock = some j → j = o') ∧ v'.ownBlock ≠ some b1 ∧ (w0.heap.size ≤ o' ∧ o' < w4.heap.size) ∧ PL w4 (fun k => b2 < k ∧ k ≠ o' ∧ k < w4.heap.size) zs (pts c ks 0) ∧ Value.slice none 0 0 = v' ∧ (o' = b1 ∨ b2 < o') := ⟨_, b1, [], World.ownsRow_nil _ _ _ _, (fun j h => by cases h), (fun h => by cases h), by have := m1.lt; omega, by rw [hp0]; exact PL.nil, rfl, .inl rfl⟩
  obtain ⟨vj, oj, zj, hj1, hj2, hj3, hj4, hj5, hj6, hj7⟩ := hJ
  rw [hj6] at F
  refine wp_up ks.length (fun i a w => ∃ v' o' zs, w.ownsRow w0.heap.size 24 3 v' zs.length (zs.flatMap lc) ∧ (∀ j, v'.ownBlock = some j → j = o') ∧ v'.ownBlock ≠ some b1 ∧ (w0.heap.size ≤ o' ∧ o' < w.heap.size) ∧ PL w (fun k => b2 < k ∧ k ≠ o' ∧ k < w.heap.size) zs (pts c ks i) ∧ Blk w b1 94 [.int .i64 c, .slice av ks.length cv] ∧ Blk w b2 24 [.int .i64 0, .int .i64 0, .slice none 0 0] ∧ b2 < o' + b2 + 1 ∧ (o' = b1 ∨ b2 < o') ∧ Below w0.heap.size w0 w ∧ Fs 64 a [(28, .int .i64 (i : Int)), (27, .int .i64 (ks.length : Int)), (26, .slice av ks.length cv), (3, v'), (2, .pointer (some ⟨b2, 0, none⟩))]) ⟨vj, oj, zj, hj1, hj2, hj3, hj4, hj5, m1, m2, by omega, hj7, hB, F.sub _ rfl⟩ ?_
  repeat clear F
  clear hB m1 m2
  rintro i a wq hi ⟨vv, o2, zs, hO, hat, hne, hlo, hP, m1, m2, _, ho2b, hB, F⟩ K' hK'
  have sB := hB.size
  have hm1 := m1.lt
  have hm2 := m2.lt
  obtain ⟨top, htop⟩ : ∃ h, h = wq.heap.size := ⟨_, rfl⟩
  rw [← htop] at hP
  have hPl := hP.1
  have hple := pts_le c ks i
  refine wp_rs fun _ K64 => F.vl (x_lss rfl rfl rfl) fun a F => ?_
  refine s_end (K64 _ _ ?_)
  refine wp_seq_k fun _ K65 => ?_
  refine wp_iff F rfl (fun hc29 => ?_) (fun hc29 => ?_)
  ·
   have hgi := hLo.gt i
   obtain ⟨b6, off6, c6, hve, hrowk⟩ := rd_rowI hV (i := i) (by omega)
   cases hve
   refine wp_skip (K65 _ _ ?_)
   refine wp_seq_k fun _ K66 => ?_
   refine wp_block ?_
   refine wp_rs fun _ K67 => F.mv rfl fun a F => F.vl (x_ixa rfl rfl (m_ixs i Try.underlying92 el29.size rfl (by omega))) fun a F => F.vl (x_load rfl (m_load flat3 (hrowk _ hB))) fun a F => F.sg rfl fun a F => F.sg rfl fun a F => ?_
   refine s_end (K67 _ _ ?_)
   rcases (show gt ks i = -1 ∨ gt ks i = 0 ∨ 0 < gt ks i by omega) with hg | hg | hg
   ·
    have hp1 : part1 i (gt ks i) = [] := by rw [part1, if_pos (by omega)]
    refine wp_rs fun _ K69 => F.mv rfl fun a F => F.vl (x_build (vs := [(0, _), (1, _)]) rfl (b24_01 _ _ _)) fun a F => ?_
    refine s_alloc F (by decide) zero24 fun w90 b6 a eb6 m6 B91 zb6 F => ?_
    have sB91 := B91.size
    have hB := bt hB B91
    have m1 := m1.old B91
    have m2 := m2.old B91
    have hO := own_below hO B91
    have hP := hP.below B91
    refine s_putW F rfl rfl (size_wide wide24) m6 rfl (one3 rfl) fun w92 m6 o93 => ?_
    have so93 := o93.size
    have hB := hB.trans (o93.below (by omega))
    have m1 := m1.only o93 (by omega)
    have m2 := m2.only o93 (by omega)
    have hO := own_only hO o93 (fun e => by have := hat _ e; omega)
    have hP := hP.only o93 (fun k (hk : b2 < k ∧ k ≠ o2 ∧ k < top) => by omega)
    refine s_end (K69 _ _ ?_)
    refine wp_seq_k fun _ K70 => ?_
    refine wp_rs fun _ K71 => F.mv rfl fun a F => F.vl (gtrF (by omega) rfl rfl) fun a F => ?_
    refine s_end (K71 _ _ ?_)
    refine wp_if F rfl ?_
    refine wp_skip (K70 _ _ ?_)
    refine wp_rs fun _ K72 => F.mv rfl fun a F => F.vl (geqF (by omega) rfl rfl) fun a F => ?_
    refine s_end (K72 _ _ ?_)
    refine wp_if F rfl ?_
    refine wp_skip (K66 _ _ ?_)
    refine wp_region_lit ?_
    refine F.vl (x_addn (i + 1) (by omega) (by omega) rfl rfl) fun a F => F.mv rfl fun a F => ?_
    refine s_end (hK' _ _ (by omega) ⟨vv, o2, zs, hO, hat, hne, by omega, by rw [pts, hp1, List.append_nil]; exact hP.mono (fun k (hk : b2 < k ∧ k ≠ o2 ∧ k < top) => (by omega : _ ∧ _ ∧ _)), m1, m2, by omega, ho2b, hB, F.sub _ rfl⟩)
   ·
    have hp1 : part1 i (gt ks i) = [.var i] := by rw [part1, if_neg (by omega), if_pos hg]
    refine wp_rs fun _ K73 => F.mv rfl fun a F => F.vl (x_build (vs := [(0, _), (1, _)]) rfl (b24_01 _ _ _)) fun a F => ?_
    refine s_alloc F (by decide) zero24 fun w94 b6 a eb6 m6 B95 zb6 F => ?_
    have sB95 := B95.size
    have hB := bt hB B95
    have m1 := m1.old B95
    have m2 := m2.old B95
    have hO := own_below hO B95
    have hP := hP.below B95
    refine s_putW F rfl rfl (size_wide wide24) m6 rfl (one3 rfl) fun w96 m6 o97 => ?_
    have so97 := o97.size
    have hB := hB.trans (o97.below (by omega))
    have m1 := m1.only o97 (by omega)
    have m2 := m2.only o97 (by omega)
    have hO := own_only hO o97 (fun e => by have := hat _ e; omega)
    have hP := hP.only o97 (fun k (hk : b2 < k ∧ k ≠ o2 ∧ k < top) => by omega)
    refine s_end (K73 _ _ ?_)
    refine wp_seq_k fun _ K74 => ?_
    refine wp_rs fun _ K75 => F.mv rfl fun a F => F.vl (gtrF (by omega) rfl rfl) fun a F => ?_
    refine s_end (K75 _ _ ?_)
    refine wp_if F rfl ?_
    refine wp_skip (K74 _ _ ?_)
    refine wp_rs fun _ K76 => F.mv rfl fun a F => F.vl (geqT (by omega) rfl rfl) fun a F => ?_
    refine s_end (K76 _ _ ?_)
    refine wp_if F rfl ?_
    refine wp_region_lit ?_
    refine F.mv rfl fun a F => F.vl (x_ldW wide24 m6 rfl rfl) fun a F => ?_
    refine s_litG [lv (2, (i : Int), .slice none 0 0)] el22 F (by decide) rfl (by simp [Value.cells, lc]) rfl (by decide) (by decide) fun w98 bl a ebl ml B99 zbl F => ?_
    have sB99 := B99.size
    have hB := bt hB B99
    have m1 := m1.old B99
    have m2 := m2.old B99
    have hO := own_below hO B99
    have hP := hP.below B99
    have ml : Blk w98 bl 24 (lc (2, (i : Int), .slice none 0 0)) := by simpa [Value.cells] using ml
    refine s_app1 (o := o2) el22 F (by decide) rfl rfl hO ml rfl (one3 rfl) hat (by omega) (by omega) (by decide) (by omega) fun v3 w100 a o3 hOn hOatn how hsrc k101 hkeep F => ?_
    have sk101 := k101.size
    have hB := k101.under hB (by omega)
    have m1 : Blk w100 b1 _ _ := (hkeep _ m1.lt hne).trans m1
    have m2 := m2.k2 k101 (by omega)
    have hP := hP.k2 k101 (fun k (hk : b2 < k ∧ k ≠ o2 ∧ k < top) => by omega)
    have hO := hOn
    have hO_at := hOatn
    have hneg : v3.ownBlock ≠ some b1 := fun h => by rcases hsrc b1 h with h | h; exact hne h; omega
    refine F.sg rfl fun a F => ?_
    refine s_end (K66 _ _ ?_)
    refine wp_region_lit ?_
    refine F.vl (x_addn (i + 1) (by omega) (by omega) rfl rfl) fun a F => F.mv rfl fun a F => ?_
    refine s_end (hK' _ _ (by omega) ⟨v3, o3, zs ++ [(2, (i : Int), .slice none 0 0)], by rw [fm3_app]; simpa using hO, hO_at, hneg, by omega, by rw [pts, hp1]; exact (hP.mono (fun k (hk : b2 < k ∧ k ≠ o2 ∧ k < top) => (by omega : _ ∧ _ ∧ _))).snoc (⟨rfl, rfl, Rd.nil _ _⟩), m1, m2, by omega, by omega, hB, F.sub _ rfl⟩)
   ·
    have hp1 : part1 i (gt ks i) = [.succ (gt ks i).toNat (.var i)] := by rw [part1, if_neg (by omega), if_neg (by omega)]
    refine wp_rs fun _ K77 => F.mv rfl fun a F => F.vl (x_build (vs := [(0, _), (1, _)]) rfl (b24_01 _ _ _)) fun a F => ?_
    refine s_alloc F (by decide) zero24 fun w102 b6 a eb6 m6 B103 zb6 F => ?_
    have sB103 := B103.size
    have hB := bt hB B103
    have m1 := m1.old B103
    have m2 := m2.old B103
    have hO := own_below hO B103
    have hP := hP.below B103
    refine s_putW F rfl rfl (size_wide wide24) m6 rfl (one3 rfl) fun w104 m6 o105 => ?_
    have so105 := o105.size
    have hB := hB.trans (o105.below (by omega))
    have m1 := m1.only o105 (by omega)
    have m2 := m2.only o105 (by omega)
    have hO := own_only hO o105 (fun e => by have := hat _ e; omega)
    have hP := hP.only o105 (fun k (hk : b2 < k ∧ k ≠ o2 ∧ k < top) => by omega)
    refine s_end (K77 _ _ ?_)
    refine wp_seq_k fun _ K78 => ?_
    refine wp_rs fun _ K79 => F.mv rfl fun a F => F.vl (gtrT (by omega) rfl rfl) fun a F => ?_
    refine s_end (K79 _ _ ?_)
    refine wp_if F rfl ?_
    refine wp_region_lit ?_
    refine F.mv rfl fun a F => F.vl (x_ldW wide24 m6 rfl rfl) fun a F => ?_
    refine s_litG [lv (2, (i : Int), .slice none 0 0)] el22 F (by decide) rfl (by simp [Value.cells, lc]) rfl (by decide) (by decide) fun w106 bs a ebs ms B107 zbs F => ?_
    have sB107 := B107.size
    have hB := bt hB B107
    have m1 := m1.old B107
    have m2 := m2.old B107
    have hO := own_below hO B107
    have hP := hP.below B107
    have m6 := m6.old B107
    have ms : Blk w106 bs 24 (lc (2, (i : Int), .slice none 0 0)) := by simpa [Value.cells] using ms
    refine F.vl (x_build (vs := [(0, _), (1, _), (2, _)]) rfl (b24_012 _ _ _ _ _ _)) fun a F => ?_
    refine s_putW F rfl rfl (size_wide wide24) m6 rfl (one3 rfl) fun w108 m6 o109 => ?_
    have so109 := o109.size
    have hB := hB.trans (o109.below (by omega))
    have m1 := m1.only o109 (by omega)
    have m2 := m2.only o109 (by omega)
    have hO := own_only hO o109 (fun e => by have := hat _ e; omega)
    have hP := hP.only o109 (fun k (hk : b2 < k ∧ k ≠ o2 ∧ k < top) => by omega)
    have ms := ms.only o109 (by omega)
    refine s_end (K78 _ _ ?_)
    refine wp_rs fun _ K80 => F.mv rfl fun a F => F.vl (geqT (by omega) rfl rfl) fun a F => ?_
    refine s_end (K80 _ _ ?_)
    refine wp_if F rfl ?_
    refine wp_region_lit ?_
    refine F.mv rfl fun a F => F.vl (x_ldW wide24 m6 rfl rfl) fun a F => ?_
    refine s_litG [lv (3, gt ks i, .slice (some ⟨bs, 0, none⟩) 1 1)] el22 F (by decide) rfl (by simp [Value.cells, lc]) rfl (by decide) (by decide) fun w110 bl a ebl ml B111 zbl F => ?_
    have sB111 := B111.size
    have hB := bt hB B111
    have m1 := m1.old B111
    have m2 := m2.old B111
    have hO := own_below hO B111
    have hP := hP.below B111
    have ms := ms.old B111
    have ml : Blk w110 bl 24 (lc (3, gt ks i, .slice (some ⟨bs, 0, none⟩) 1 1)) := by simpa [Value.cells] using ml
    refine s_app1 (o := o2) el22 F (by decide) rfl rfl hO ml rfl (one3 rfl) hat (by omega) (by omega) (by decide) (by omega) fun v3 w112 a o3 hOn hOatn how hsrc k113 hkeep F => ?_
    have sk113 := k113.size
    have hB := k113.under hB (by omega)
    have m1 : Blk w112 b1 _ _ := (hkeep _ m1.lt hne).trans m1
    have m2 := m2.k2 k113 (by omega)
    have hP := hP.k2 k113 (fun k (hk : b2 < k ∧ k ≠ o2 ∧ k < top) => by omega)
    have ms := ms.k2 k113 (by omega)
    have hO := hOn
    have hO_at := hOatn
    have hneg : v3.ownBlock ≠ some b1 := fun h => by rcases hsrc b1 h with h | h; exact hne h; omega
    refine F.sg rfl fun a F => ?_
    refine s_end (K66 _ _ ?_)
    refine wp_region_lit ?_
    refine F.vl (x_addn (i + 1) (by omega) (by omega) rfl rfl) fun a F => F.mv rfl fun a F => ?_
    refine s_end (hK' _ _ (by omega) ⟨v3, o3, zs ++ [(3, gt ks i, .slice (some ⟨bs, 0, none⟩) 1 1)], by rw [fm3_app]; simpa using hO, hO_at, hneg, by omega, by rw [pts, hp1]; exact (hP.mono (fun k (hk : b2 < k ∧ k ≠ o2 ∧ k < top) => (by omega : _ ∧ _ ∧ _))).snoc (⟨rfl, by show gt ks i = _; omega, (2, (i : Int), .slice none 0 0), Rd.blk (k := 3) ms rfl, fun j h => by cases h; show b2 < bs ∧ bs ≠ o3 ∧ bs < _; have := ms.lt; omega, ⟨rfl, rfl, Rd.nil _ _⟩⟩), m1, m2, by omega, by omega, hB, F.sub _ rfl⟩)
  ·
   obtain rfl : i = ks.length := by omega
   have hVp := Rd.own hO
   have hPp := hP.mono (B := fun k => w0.heap.size ≤ k ∧ k ≠ b2 ∧ k < wq.heap.size) (fun k (hk : b2 < k ∧ k ≠ o2 ∧ k < top) => (by omega : _ ∧ _ ∧ _))
   have hBP := Below.refl wq.heap.size wq
   have hppos := pts_pos (c := c) hTm
   have hPl := hPp.1
   obtain ⟨b8, off8, c8, z0, hve, hz0, hrow0⟩ := rd_row3 hVp (i := 0) (by omega)
   cases hve
   obtain ⟨p0, hp0e, hz0r⟩ := hPp.at hz0
   have h1z0 := hz0r.rs.one1
   clear hP
   refine wp_exit (K62 _ _ ?_)
   refine wp_rs fun _ K81 => F.mv rfl fun a F => F.vl (x_ixa rfl rfl (m_ixsK 0 Try.underlying22 el22.size rfl (by omega))) fun a F => F.vl (x_ldA wide24 (hrow0 _ hBP) rfl rfl) fun a F => ?_
   refine s_alloc F (by decide) zero24 fun w114 b7 a eb7 m7 B115 zb7 F => ?_
   have sB115 := B115.size
   have hB := bt hB B115
   have hBP := bt hBP B115
   have m2 := m2.old B115
   refine s_putW F rfl rfl (size_wide wide24) m7 rfl (one_lc h1z0) fun w116 m7 o117 => ?_
   have so117 := o117.size
   have hB := hB.trans (o117.below (by omega))
   have hBP := hBP.trans (o117.below (by omega))
   have m2 := m2.only o117 (by omega)
   refine s_end (K81 _ _ ?_)
   refine wp_seq_k fun _ K82 => ?_
   have hV2 := rd_tail hVp (by omega)
   obtain ⟨a2, ha2⟩ : ∃ a2, a2 = (if c8 = 1 then some (⟨b8, off8, none⟩ : Addr) else (some (⟨b8, off8, none⟩ : Addr)).map (·.add (1 * 3))) := ⟨_, rfl⟩
   rw [← ha2] at hV2
   have hdl : (zs.drop 1).length = zs.length - 1 := by rw [List.length_drop]
   have hb7 := m7.lt
   refine wp_rs fun _ K83 => F.mv rfl fun a F => F.vl (x_slice (v := .slice a2 (zs.length - 1) (c8 - 1)) (vlo := some (.int .i64 1)) (vhi := none) (vmx := none) rfl rfl rfl rfl (by rw [ha2]; exact m_sliceFK 1 Try.underlying22 el22.size rfl (by omega))) fun a F => F.vl (x_len Try.underlying22 rfl) fun a F => F.mv rfl fun a F => ?_
   refine s_end (K83 _ _ ?_)
   refine wp_block ?_
   refine wp_up (zs.length - 1) (fun i a w => ∃ z, Blk w b7 24 (lc z) ∧ RSn w (fun k => w0.heap.size ≤ k ∧ k ≠ b2 ∧ k ≠ b7) ((((pts c ks ks.length).drop 1).take i).foldl SL.mx p0) z ∧ Blk w b2 24 [.int .i64 0, .int .i64 0, .slice none 0 0] ∧ Below w0.heap.size w0 w ∧ Below wq.heap.size wq w ∧ Fs 64 a [(54, .int .i64 (i : Int)), (53, .int .i64 ((zs.length - 1 : Nat) : Int)), (52, .slice a2 (zs.length - 1) (c8 - 1)), (7, .pointer (some ⟨b7, 0, none⟩)), (2, .pointer (some ⟨b2, 0, none⟩))]) ⟨z0, m7, (hz0r.below hBP).mono (fun k h => ⟨h.1, h.2.1, by have := h.2.2; omega⟩), m2, hB, hBP, F.sub _ rfl⟩ ?_
   repeat clear F
   clear hB hBP m7 m2
   rintro i a w hi ⟨z, m7, hz, m2, hB, hBP, F⟩ K' hK'
   have sB := hB.size
   have sBP := hBP.size
   have hml := m7.lt
   obtain ⟨top2, htop2⟩ : ∃ h, h = w.heap.size := ⟨_, rfl⟩
   have hz := hz.valid.mono (B := fun k => w0.heap.size ≤ k ∧ k ≠ b2 ∧ k ≠ b7 ∧ k < top2) (fun k h => ⟨h.1.1, h.1.2.1, h.1.2.2, by have := h.2; omega⟩)
   refine wp_rs fun _ K84 => F.vl (x_lss (b := decide (i < zs.length - 1)) (decide_eq_decide.2 (by omega)) rfl rfl) fun a F => ?_
   refine s_end (K84 _ _ ?_)
   refine wp_seq_k fun _ K85 => ?_
   refine wp_iff F rfl (fun hc55 => ?_) (fun hc55 => ?_)
   ·
    obtain ⟨b9, off9, c9, y, hve, hy, hrow⟩ := rd_row3 hV2 (i := i) (by omega)
    rw [hdl] at hve
    cases hve
    have hy1 : zs[i + 1]? = some y := by rw [List.getElem?_drop, Nat.add_comm] at hy; exact hy
    obtain ⟨q, hq1, hyr⟩ := hPp.at hy1
    have hq2 : ((pts c ks ks.length).drop 1)[i]? = some q := by rw [List.getElem?_drop, Nat.add_comm]; exact hq1
    have h1y := hyr.rs.one1
    have h1z := hz.rs.one1
    refine wp_skip (K85 _ _ ?_)
    refine wp_seq_k fun _ K86 => ?_
    refine wp_block ?_
    refine wp_rs fun _ K87 => F.vl (x_ixa rfl rfl (m_ixsK i Try.underlying22 el22.size rfl (by omega))) fun a F => F.vl (x_ldA wide24 (hrow _ hBP) rfl rfl) fun a F => ?_
    refine s_alloc F (by decide) zero24 fun w118 b9 a eb9 m9 B119 zb9 F => ?_
    have sB119 := B119.size
    have hB := bt hB B119
    have hBP := bt hBP B119
    have m7 := m7.old B119
    have m2 := m2.old B119
    have hz := hz.below B119
    refine s_putW F rfl rfl (size_wide wide24) m9 rfl (one_lc h1y) fun w120 m9 o121 => ?_
    have so121 := o121.size
    have hB := hB.trans (o121.below (by omega))
    have hBP := hBP.trans (o121.below (by omega))
    have m7 := m7.only o121 (by omega)
    have m2 := m2.only o121 (by omega)
    have hz := hz.only o121 (fun k (hk : w0.heap.size ≤ k ∧ k ≠ b2 ∧ k ≠ b7 ∧ k < top2) => by omega)
    refine s_end (K87 _ _ ?_)
    refine wp_region_lit ?_
    refine F.vl (x_ldW wide24 m7 rfl rfl) fun a F => F.vl (x_ldW wide24 m9 rfl rfl) fun a F => ?_
    refine s_litG [lv z, lv y] el22 F (by decide) rfl (by simp [Value.cells, lc]) rfl (by decide) (by decide) fun w122 bl a ebl ml B123 zbl F => ?_
    have sB123 := B123.size
    have hB := bt hB B123
    have hBP := bt hBP B123
    have m7 := m7.old B123
    have m2 := m2.old B123
    have hz := hz.below B123
    refine F.vl (x_build (vs := [(0, _), (2, _)]) rfl (b24_02 _ _ _ _ _)) fun a F => ?_
    refine s_putW (vs := lc (4, 0, .slice (some ⟨bl, 0, none⟩) 2 2)) F rfl rfl (size_wide wide24) m7 rfl (one3 rfl) fun w124 m7 o125 => ?_
    have so125 := o125.size
    have hB := hB.trans (o125.below (by omega))
    have hBP := hBP.trans (o125.below (by omega))
    have m2 := m2.only o125 (by omega)
    have hz := hz.only o125 (fun k (hk : w0.heap.size ≤ k ∧ k ≠ b2 ∧ k ≠ b7 ∧ k < top2) => by omega)
    have ml := ml.only o125 (by omega)
    have hz : RSn w124 (fun k => w0.heap.size ≤ k ∧ k ≠ b2 ∧ k ≠ b7) (.mx ((((pts c ks ks.length).drop 1).take i).foldl SL.mx p0) q) (4, 0, .slice (some ⟨bl, 0, none⟩) 2 2) := ⟨rfl, z, y, Rd.blk (k := 3) (by simpa [Value.cells] using ml) (by simp [lc]), fun j h => by cases h; show _ ≤ bl ∧ bl ≠ b2 ∧ bl ≠ b7; omega, hz.mono (fun k h => ⟨h.1, h.2.1, h.2.2.1⟩), (hyr.below hBP).mono (fun k h => ⟨h.1, h.2.1, by have := h.2.2; omega⟩)⟩
    refine s_end (K86 _ _ ?_)
    refine wp_region_lit ?_
    refine F.vl (x_addn (i + 1) (by omega) (by omega) rfl rfl) fun a F => F.mv rfl fun a F => ?_
    refine s_end (hK' _ _ (by omega) ⟨_, m7, by rw [fold_snoc hq2]; exact hz, m2, hB, hBP, F.sub _ rfl⟩)
   ·
    have hPl2 := hPp.1
    have hall : ((pts c ks ks.length).drop 1).take i = (pts c ks ks.length).drop 1 := List.take_of_length_le (by rw [List.length_drop]; omega)
    rw [hall, ← levF_eq rfl hp0e] at hz
    have h1z := hz.rs.one1
    refine wp_exit (K82 _ _ ?_)
    refine wp_rs fun _ K88 => F.vl (x_ldW wide24 m7 rfl rfl) fun a F => ?_
    refine s_putW F rfl rfl (size_wide wide24) m2 rfl (one_lc h1z) fun w126 m2 o127 => ?_
    have so127 := o127.size
    have hB := hB.trans (o127.below (by omega))
    have hz := hz.only o127 (fun k (hk : w0.heap.size ≤ k ∧ k ≠ b2 ∧ k ≠ b7 ∧ k < top2) => by omega)
    refine s_end (K88 _ _ ?_)
    refine wp_ret (res_cell F rfl rfl m2 wide24 ⟨_, rfl, ⟨z, rfl, hz.mono (fun k h => h.1)⟩, hB⟩)
end Go.Proofs.Ytbhhbfdoadecgaa

namespace Go.Proofs.Ytbhhbfdoadecgaa
open Go.RowKit Go.Shelf
set_option linter.unusedVariables false
set_option linter.unusedSimpArgs false
def SL.kd : SL → Int
 | .num _ => 1
 | .var _ => 2
 | .succ _ _ => 3
 | .mx _ _ => 4
def SL.nn : SL → Int
 | .num n => n
 | .var n => n
 | .succ n _ => n
 | .mx _ _ => 0
theorem RS.kd {W : World} {s : SL} {k n : Int} {v : Value} (h : RS W s (k, n, v)) : k = s.kd ∧ (k ≠ 4 → n = s.nn) := by
 cases s with
 | num m => exact ⟨h.1, fun _ => h.2.1⟩
 | var m => exact ⟨h.1, fun _ => h.2.1⟩
 | succ m a => exact ⟨h.1, fun _ => h.2.1⟩
 | mx a b => exact ⟨h.1, fun h4 => absurd h.1 h4⟩
theorem SL.kids_sum (s : SL) : (s.kids.map SL.size).sum + 1 = s.size := by cases s <;> simp [SL.kids, SL.size]
end Go.Proofs.Ytbhhbfdoadecgaa

namespace Go.Proofs.Ytbhhbfdoadecgaa
open Go.RowKit Go.Shelf
set_option linter.unusedVariables false
set_option linter.unusedSimpArgs false
/-- n more than s. -/
def plusS (n : Nat) : SL → SL
 | .succ m a => .succ (cut (n + m)).toNat a
 | s => .succ n s
def awS : SL := .mx (.num 3) (.succ 1 (.var 0))
end Go.Proofs.Ytbhhbfdoadecgaa

namespace Go.Proofs.Ytbhhbfdoadecgaa
set_option linter.unusedVariables false
set_option linter.unusedSimpArgs false
/-! ### The greater of two, up to its form -/
theorem eqF.refl (a : SL) : eqF a a := ⟨rfl, rfl⟩
theorem eqF.symm {a b : SL} (h : eqF a b) : eqF b a := ⟨h.1.symm, h.2.symm⟩
theorem eqF.trans {a b c : SL} (h : eqF a b) (h' : eqF b c) : eqF a c := ⟨h.1.trans h'.1, h.2.trans h'.2⟩
theorem eqF.mx {a b c d : SL} (h : eqF a c) (h' : eqF b d) : eqF (.mx a b) (.mx c d) := nf_join h h'
theorem mx_comm (a b : SL) : eqF (.mx a b) (.mx b a) := nf_of (fun j => by simp only [kf]; omega) (by simp only [cf]; omega)
/-! ### A form's level has that form -/
def kfs : List SL → Nat → Int
 | [], _ => -1
 | q :: qs, j => max (kf q 0 j) (kfs qs j)
def cfs : List SL → Int
 | [] => -1
 | q :: qs => max (cf q 0) (cfs qs)
theorem kf_fold : ∀ (ps : List SL) (p : SL) (j : Nat), kf (ps.foldl SL.mx p) 0 j = max (kf p 0 j) (kfs ps j)
 | [], p, j => by have := kf_lo p 0 j (by decide); simp only [List.foldl_nil, kfs]; omega
 | q :: ps, p, j => by
  rw [List.foldl_cons, kf_fold ps (.mx p q) j]
  simp only [kf, kfs]
  omega
theorem cf_fold : ∀ (ps : List SL) (p : SL), cf (ps.foldl SL.mx p) 0 = max (cf p 0) (cfs ps)
 | [], p => by have := cf_lo p 0 (by decide); simp only [List.foldl_nil, cfs]; omega
 | q :: ps, p => by
  rw [List.foldl_cons, cf_fold ps (.mx p q)]
  simp only [cf, cfs]
  omega
theorem kfs_lo : ∀ (ps : List SL) (j : Nat), -1 ≤ kfs ps j
 | [], _ => by simp [kfs]
 | q :: ps, j => by have := kfs_lo ps j; simp only [kfs]; omega
theorem cfs_lo : ∀ (ps : List SL), -1 ≤ cfs ps
 | [] => by simp [cfs]
 | q :: ps => by have := cfs_lo ps; simp only [cfs]; omega
theorem kfs_app (xs ys : List SL) (j : Nat) : kfs (xs ++ ys) j = max (kfs xs j) (kfs ys j) := by
 induction xs with
 | nil => have := kfs_lo ys j; simp only [List.nil_append, kfs]; omega
 | cons x xs ih => simp only [List.cons_append, kfs, ih]; omega
theorem cfs_app (xs ys : List SL) : cfs (xs ++ ys) = max (cfs xs) (cfs ys) := by
 induction xs with
 | nil => have := cfs_lo ys; simp only [List.nil_append, cfs]; omega
 | cons x xs ih => simp only [List.cons_append, cfs, ih]; omega
theorem kfs_part (i : Nat) (k : Int) (hk : -1 ≤ k) (hk1 : k ≤ 1099511627776) (j : Nat) : kfs (part1 i k) j = if i = j then k else -1 := by
 unfold part1
 by_cases h1 : k < 0
 ·
  rw [if_pos h1]
  simp only [kfs]
  split <;> omega
 ·
  rw [if_neg h1]
  by_cases h2 : k = 0
  ·
   rw [if_pos h2, h2]
   simp only [kfs, kf]
   split <;> omega
  ·
   rw [if_neg h2]
   have h3 : cut (0 + ((k.toNat : Nat) : Int)) = k := by unfold cut; omega
   simp only [kfs, kf, h3]
   split <;> omega
theorem cfs_part (i : Nat) (k : Int) : cfs (part1 i k) = -1 := by
 unfold part1
 split
 ·
  rfl
 ·
  split <;> simp [cfs, cf]
theorem kfs_pts {c : Int} {ks : List Int} (hLo : Lo ks) (hHi : ∀ j, gt ks j ≤ 1099511627776) : ∀ (i j : Nat), kfs (pts c ks i) j = if j < i then gt ks j else -1
 | 0, j => by
  rw [if_neg (show ¬ j < 0 by omega), pts]
  split <;> simp [kfs, kf]
 | i + 1, j => by
  rw [pts, kfs_app, kfs_pts hLo hHi i j, kfs_part i (gt ks i) (hLo.gt i) (hHi i) j]
  have := hLo.gt j
  by_cases h1 : j < i
  ·
   rw [if_pos h1, if_neg (by omega), if_pos (by omega)]; omega
  ·
   rw [if_neg h1]
   by_cases h2 : i = j
   ·
    subst h2; rw [if_pos rfl, if_pos (by omega)]; omega
   ·
    rw [if_neg h2, if_neg (by omega)]; rfl
theorem cfs_pts {c : Int} {ks : List Int} (hc : 0 ≤ c) (hc1 : c ≤ 1099511627776) : ∀ (i : Nat), cfs (pts c ks i) = if c ≠ 0 ∨ ks = [] then c else -1
 | 0 => by
  rw [pts]
  split
  ·
   have h3 : cut (0 + ((c.toNat : Nat) : Int)) = c := by unfold cut; omega
   simp only [cfs, cf, h3]
   omega
  ·
   rfl
 | i + 1 => by
  rw [pts, cfs_app, cfs_pts hc hc1 i, cfs_part]
  split <;> omega
theorem nf_levF (s : SL) : eqF (levF (nfC s) (nfK s)) s := by
 have hp := pts_pos (c := nfC s) (nfK_tm s)
 have hk : ∀ j, kf (levF (nfC s) (nfK s)) 0 j = gt (nfK s) j := by
  intro j
  have h1 := kfs_pts (c := nfC s) (nfK_lo s) (nfK_hi s) (nfK s).length j
  unfold levF
  split
  ·
   next e => rw [e] at hp; simp at hp
  ·
   next p ps e =>
   rw [e] at h1
   rw [kf_fold]
   simp only [kfs] at h1
   rw [h1]
   split
   ·
    rfl
   ·
    rw [gt_ge (by omega)]
 have hc : cf (levF (nfC s) (nfK s)) 0 = if nfC s ≠ 0 ∨ nfK s = [] then nfC s else -1 := by
  have h1 := cfs_pts (c := nfC s) (ks := nfK s) (nfC_nn s) (nfC_le s) (nfK s).length
  unfold levF
  split
  ·
   next e => rw [e] at hp; simp at hp
  ·
   next p ps e =>
   rw [e] at h1
   rw [cf_fold]
   exact h1
 have eK : nfK (levF (nfC s) (nfK s)) = nfK s := tm_ext (nfK_tm _) (nfK_tm _) fun j => by rw [gt_nfK, hk]
 have ekm : km (levF (nfC s) (nfK s)) 0 = km s 0 := by rw [← mxl_nfK, ← mxl_nfK, eK]
 refine ⟨?_, eK⟩
 have h1 := nfC_is (levF (nfC s) (nfK s))
 have h2 := nfC_is s
 have h3 := km_nil s
 have h4 := km_lo s 0 (by decide)
 rw [ekm] at h1
 have h5 := nfC_nn s
 by_cases c1 : nfC s ≠ 0 ∨ nfK s = []
 ·
  rw [if_pos c1] at hc
  rw [h3] at c1
  omega
 ·
  rw [if_neg c1] at hc
  have : nfC s = 0 := Classical.byContradiction fun h => c1 (.inl h)
  omega
/-! ### Values, where nothing is cut -/
def SL.tot : SL → Int
 | .num n => n
 | .var _ => 0
 | .succ n a => n + a.tot
 | .mx a b => max a.tot b.tot
theorem SL.tot_nn : ∀ (s : SL), 0 ≤ s.tot
 | .num n => by simp only [SL.tot]; omega
 | .var _ => by simp [SL.tot]
 | .succ n a => by have := a.tot_nn; simp only [SL.tot]; omega
 | .mx a b => by have := a.tot_nn; simp only [SL.tot]; omega
theorem kf_tot : ∀ (s : SL) (n : Int) (j : Nat), 0 ≤ n → n + s.tot ≤ 1099511627776 → kf s n j ≤ n + s.tot
 | .num _, n, j, h, _ => by simp only [kf, SL.tot]; omega
 | .var i, n, j, h, _ => by simp only [kf, SL.tot]; split <;> omega
 | .succ m a, n, j, h, h1 => by
  have h2 := a.tot_nn
  simp only [SL.tot] at h1 ⊢
  have e : cut (n + m) = n + m := by unfold cut; omega
  have := kf_tot a (n + m) j (by omega) (by omega)
  simp only [kf, e]
  omega
 | .mx a b, n, j, h, h1 => by
  simp only [SL.tot] at h1 ⊢
  have := kf_tot a n j h (by omega)
  have := kf_tot b n j h (by omega)
  simp only [kf]
  omega
theorem cf_tot : ∀ (s : SL) (n : Int), 0 ≤ n → n + s.tot ≤ 1099511627776 → cf s n ≤ n + s.tot
 | .num _, n, h, _ => by simp only [cf, SL.tot, cut]; omega
 | .var i, n, h, _ => by simp only [cf, SL.tot]; omega
 | .succ m a, n, h, h1 => by
  have h2 := a.tot_nn
  simp only [SL.tot] at h1 ⊢
  have e : cut (n + m) = n + m := by unfold cut; omega
  have := cf_tot a (n + m) (by omega) (by omega)
  simp only [cf, e]
  omega
 | .mx a b, n, h, h1 => by
  simp only [SL.tot] at h1 ⊢
  have := cf_tot a n h (by omega)
  have := cf_tot b n h (by omega)
  simp only [cf]
  omega
section
variable {ρ : Nat → Int} {B : Int}
theorem val_tot (hρ : ∀ j, 0 ≤ ρ j ∧ ρ j ≤ B) : ∀ (s : SL), s.tot + B ≤ 1099511627776 → 0 ≤ val s ρ ∧ val s ρ ≤ s.tot + B
 | .num n, h => by have := hρ 0; simp only [val, SL.tot] at *; omega
 | .var i, h => by have := hρ i; simp only [val, SL.tot] at *; omega
 | .succ n a, h => by
  simp only [SL.tot] at h ⊢
  have := val_tot hρ a (by omega)
  simp only [val, cut]
  omega
 | .mx a b, h => by
  simp only [SL.tot] at h ⊢
  have := val_tot hρ a (by omega)
  have := val_tot hρ b (by omega)
  simp only [val]
  omega
/-- The value is the greatest of what the leaves come to. -/
theorem val_is (hρ : ∀ j, 0 ≤ ρ j ∧ ρ j ≤ B) : ∀ (s : SL) (n : Int), 0 ≤ n → n + s.tot + B ≤ 1099511627776 → cf s n ≤ val s ρ + n ∧ (∀ j, 0 ≤ kf s n j → kf s n j + ρ j ≤ val s ρ + n) ∧ (val s ρ + n = cf s n ∨ ∃ j, 0 ≤ kf s n j ∧ val s ρ + n = kf s n j + ρ j)
 | .num m, n, h, h1 => by
  have hB := hρ 0
  simp only [SL.tot] at h1
  have e : cut (n + m) = n + m := by unfold cut; omega
  simp only [cf, val, kf, e]
  exact ⟨by omega, fun j hj => by omega, .inl (by omega)⟩
 | .var i, n, h, h1 => by
  have hB := hρ i
  refine ⟨by simp only [cf, val]; omega, fun j hj => ?_, .inr ⟨i, by simp [kf, h], by simp [kf, val]; omega⟩⟩
  simp only [kf, val] at hj ⊢
  split at hj
  ·
   next e => subst e; omega
  ·
   omega
 | .succ m a, n, h, h1 => by
  have hB := hρ 0
  have h2 := a.tot_nn
  simp only [SL.tot] at h1
  have e : cut (n + m) = n + m := by unfold cut; omega
  have hv := val_tot hρ a (by omega)
  have e2 : cut (m + val a ρ) = m + val a ρ := by unfold cut; omega
  obtain ⟨g1, g2, g3⟩ := val_is hρ a (n + m) (by omega) (by omega)
  simp only [cf, kf, val, e, e2]
  refine ⟨by omega, fun j hj => by have := g2 j hj; omega, ?_⟩
  rcases g3 with g3 | ⟨j, g3, g4⟩
  ·
   exact .inl (by omega)
  ·
   exact .inr ⟨j, g3, by omega⟩
 | .mx a b, n, h, h1 => by
  simp only [SL.tot] at h1
  obtain ⟨a1, a2, a3⟩ := val_is hρ a n h (by omega)
  obtain ⟨b1, b2, b3⟩ := val_is hρ b n h (by omega)
  simp only [cf, kf, val]
  refine ⟨by omega, fun j hj => ?_, ?_⟩
  ·
   have h3 := a2 j
   have h4 := b2 j
   omega
  ·
   have h5 : ∀ j, 0 ≤ kf a n j → 0 ≤ kf a n j → kf a n j + ρ j ≤ val a ρ + n := fun j hj _ => a2 j hj
   by_cases hc : val b ρ ≤ val a ρ
   ·
    rcases a3 with a3 | ⟨j, a3, a4⟩
    ·
     left; omega
    ·
     right
     refine ⟨j, by omega, ?_⟩
     have := b2 j
     omega
   ·
    rcases b3 with b3 | ⟨j, b3, b4⟩
    ·
     left; omega
    ·
     right
     refine ⟨j, by omega, ?_⟩
     have := a2 j
     omega
/-- The same, by the form. -/
def VF (ρ : Nat → Int) (c : Int) (K : List Int) (v : Int) : Prop := c ≤ v ∧ (∀ j, 0 ≤ gt K j → gt K j + ρ j ≤ v) ∧ (v = c ∨ ∃ j, 0 ≤ gt K j ∧ v = gt K j + ρ j)
theorem VF.one {c : Int} {K : List Int} {v v' : Int} (h : VF ρ c K v) (h' : VF ρ c K v') : v = v' := by
 obtain ⟨a1, a2, a3⟩ := h
 obtain ⟨b1, b2, b3⟩ := h'
 rcases a3 with a3 | ⟨j, a3, a4⟩
 ·
  rcases b3 with b3 | ⟨i, b3, b4⟩
  ·
   omega
  ·
   have := a2 i b3; omega
 ·
  have := b2 j a3
  rcases b3 with b3 | ⟨i, b3, b4⟩
  ·
   omega
  ·
   have := a2 i b3; omega
theorem val_nf (hρ : ∀ j, 0 ≤ ρ j ∧ ρ j ≤ B) {s : SL} (h : s.tot + B ≤ 1099511627776) : VF ρ (nfC s) (nfK s) (val s ρ) := by
 obtain ⟨g1, g2, g3⟩ := val_is hρ s 0 (by decide) (by omega)
 have hv := val_tot hρ s h
 have hi := nfC_is s
 rw [Int.add_zero] at g1 g3
 refine ⟨by omega, fun j hj => by rw [gt_nfK] at hj ⊢; have := g2 j hj; omega, ?_⟩
 rcases hi with ⟨i1, i2⟩ | ⟨i1, i2⟩
 ·
  rcases g3 with g3 | ⟨j, g3, g4⟩
  ·
   have h0 : 0 ≤ km s 0 := by omega
   rcases km_kf s 0 (by decide) with hk | ⟨j, hk⟩
   ·
    omega
   ·
    right
    refine ⟨j, by rw [gt_nfK]; omega, ?_⟩
    have := g2 j (by omega)
    have := hρ j
    rw [gt_nfK]
    omega
  ·
   exact .inr ⟨j, by rw [gt_nfK]; exact g3, by rw [gt_nfK]; omega⟩
 ·
  rcases g3 with g3 | ⟨j, g3, g4⟩
  ·
   exact .inl (by omega)
  ·
   exact .inr ⟨j, by rw [gt_nfK]; exact g3, by rw [gt_nfK]; omega⟩
theorem eqF.val (hρ : ∀ j, 0 ≤ ρ j ∧ ρ j ≤ B) {s t : SL} (h : eqF s t) (hs : s.tot + B ≤ 1099511627776) (ht : t.tot + B ≤ 1099511627776) : val s ρ = val t ρ := by
 have h1 := val_nf hρ hs
 have h2 := val_nf hρ ht
 rw [h.1, h.2] at h1
 exact h1.one h2
theorem leS.val (hρ : ∀ j, 0 ≤ ρ j ∧ ρ j ≤ B) {s t : SL} (h : leS s t) (hs : s.tot + B ≤ 1099511627776) (ht : t.tot + B ≤ 1099511627776) : val s ρ ≤ val t ρ := by
 have := eqF.val hρ h (by simp only [SL.tot]; omega) ht
 simp only [Ytbhhbfdoadecgaa.val] at this
 omega
end
/-- Where one variable alone is great. -/
def oneAt (i : Nat) (j : Nat) : Int := if j = i then 34359738368 else 0
theorem leS_of {s t : SL} (hs : s.tot ≤ 1073741824) (ht : t.tot ≤ 1073741824) (h0 : val s (fun _ => 0) ≤ val t (fun _ => 0)) (h : ∀ i, i < (nfK s).length → val s (oneAt i) ≤ val t (oneAt i)) : leS s t := by
 have hρ : ∀ i j, 0 ≤ oneAt i j ∧ oneAt i j ≤ 34359738368 := fun i j => by unfold oneAt; split <;> omega
 have hz : ∀ j : Nat, 0 ≤ (fun _ : Nat => (0 : Int)) j ∧ (fun _ : Nat => (0 : Int)) j ≤ 0 := fun j => ⟨by simp, by simp⟩
 have kt : ∀ j, gt (nfK t) j ≤ t.tot := fun j => by rw [gt_nfK]; have := kf_tot t 0 j (by decide) (by omega); omega
 have ct : nfC t ≤ t.tot := by have := nfC_is t; have := cf_tot t 0 (by decide) (by omega); have := t.tot_nn; omega
 have hk : ∀ j, gt (nfK s) j ≤ gt (nfK t) j := by
  intro j
  have l1 := (nfK_lo s).gt j
  have l2 := (nfK_lo t).gt j
  by_cases hg : gt (nfK s) j < 0
  ·
   omega
  ·
   have hj : j < (nfK s).length := Classical.byContradiction fun hj => by rw [gt_ge (by omega)] at hg; omega
   have hle := h j hj
   obtain ⟨a1, a2, a3⟩ := val_nf (hρ j) (s := s) (by omega)
   obtain ⟨b1, b2, b3⟩ := val_nf (hρ j) (s := t) (by omega)
   have := a2 j (by omega)
   have e : oneAt j j = 34359738368 := by simp [oneAt]
   rw [e] at this
   rcases b3 with b3 | ⟨i, b3, b4⟩
   ·
    omega
   ·
    have := kt i
    by_cases hij : i = j
    ·
     subst hij; rw [e] at b4; omega
    ·
     have e2 : oneAt j i = 0 := by simp [oneAt, hij]
     rw [e2] at b4
     omega
 have eK : nfK (.mx s t) = nfK t := tm_ext (nfK_tm _) (nfK_tm _) fun j => by rw [gt_mx]; have := hk j; omega
 refine ⟨?_, eK⟩
 obtain ⟨a1, a2, a3⟩ := val_nf hz (s := s) (by omega)
 obtain ⟨b1, b2, b3⟩ := val_nf hz (s := t) (by omega)
 rw [nfC_mx, eK]
 have h1 := setl_is (max (nfC s) (nfC t)) (nfK t)
 have h2 := nfC_is t
 have h3 := nfC_nn s
 have h4 := km_lo t 0 (by decide)
 rw [mxl_nfK] at h1
 rcases b3 with b3 | ⟨j, b3, b4⟩
 ·
  omega
 ·
  have := mxl_ge (nfK t) j
  rw [mxl_nfK] at this
  simp only [Int.add_zero] at b4
  omega
end Go.Proofs.Ytbhhbfdoadecgaa
