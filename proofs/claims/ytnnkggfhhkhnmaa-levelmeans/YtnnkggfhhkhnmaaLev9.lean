/- parts, level, Reduce; the reference's Level. -/
import Derived.Test.YtnnkggfhhkhnmaaLevD
namespace Go.Proofs.Ytnnkggfhhkhnmaa
open Go.RowKit Go.Shelf
set_option linter.unusedVariables false
set_option linter.unusedSimpArgs false

set_option maxRecDepth 100000 in
set_option maxHeartbeats 1600000 in
theorem join52n (A : Nat → Prop) (s t : SL) (x y : C3) (w0 : World) (hx : RSn w0 A s x) (hy : RSn w0 A t y) : Calls Try.prog 52 #[lv x, lv y] w0 fun e w' => ∃ v, e = .returned v ∧ (∃ z, v = lv z ∧ RSn w' (fun k => A k ∨ w0.heap.size ≤ k) (.mx s t) z) ∧ Below w0.heap.size w0 w' := by
  have hB := Below.refl w0.heap.size w0
  have sB := hB.size
  refine calls_fs 9 [(0, lv x), (1, lv y)] Try.func52 rfl rfl rfl rfl rfl fun a hF => ?_
  refine wp_rs fun K1 hK1 => ?_
  refine s_box (lc x) hF (by decide) rfl rfl fun w2 b2 a eb2 m2 B3 zb2 hF => ?_
  have sB3 := B3.size
  have hB := hB.trans (B3.mono hB.size)
  refine s_box (lc y) hF (by decide) rfl rfl fun w4 b3 a eb3 m3 B5 zb3 hF => ?_
  have sB5 := B5.size
  have hB := hB.trans (B5.mono hB.size)
  have m2 := m2.old B5
  refine s_alloc hF (by decide) zero24 fun w6 b4 a eb4 m4 B7 zb4 hF => ?_
  have sB7 := B7.size
  have hB := hB.trans (B7.mono hB.size)
  have m2 := m2.old B7
  have m3 := m3.old B7
  refine s_end (hK1 _ _ ?_)
  refine wp_rs fun K2 hK2 => ?_
  refine s_val hF (x_ldW wide24 m2 rfl rfl) (by decide) fun a hF => ?_
  refine s_val hF (x_ldW wide24 m3 rfl rfl) (by decide) fun a hF => ?_
  refine s_litG [lv x, lv y] el22 hF (by decide) rfl (by simp [Value.cells, lc]) rfl (by decide) (by decide) fun w8 bl a ebl ml B9 zbl hF => ?_
  have sB9 := B9.size
  have hB := hB.trans (B9.mono hB.size)
  have m2 := m2.old B9
  have m3 := m3.old B9
  have m4 := m4.old B9
  refine s_val hF (x_build (vs := [(0, _), (2, _)]) rfl (b24_02 _ _ _ _ _)) (by decide) fun a hF => ?_
  refine s_putW hF rfl rfl (size_wide wide24) m4 rfl (one3 rfl) fun w10 m4 o11 => ?_
  have so11 := o11.size
  have hB := hB.trans (o11.below (by omega))
  have m2 := m2.only o11 (by omega)
  have m3 := m3.only o11 (by omega)
  have ml := ml.only o11 (by omega)
  refine s_end (hK2 _ _ ?_)
  refine wp_ret (res_cell hF rfl rfl m4 wide24 ⟨_, rfl, ⟨(4, 0, .slice (some ⟨bl, 0, none⟩) 2 2), rfl, rfl, x, y, Rd.blk (k := 3) (by simpa [Value.cells] using ml) (by simp [lc]), fun j h => .inr (by cases h; show _ ≤ bl; omega), (hx.below hB).mono fun _ h => .inl h, (hy.below hB).mono fun _ h => .inl h⟩, hB⟩)

set_option maxRecDepth 100000 in
set_option maxHeartbeats 1600000 in
theorem succ55n (A : Nat → Prop) (m : Nat) (s : SL) (x : C3) (w0 : World) (hx : RSn w0 A s x) : Calls Try.prog 55 #[.int .i64 (m : Int), lv x] w0 fun e w' => ∃ v, e = .returned v ∧ (∃ z, v = lv z ∧ RSn w' (fun k => A k ∨ w0.heap.size ≤ k) (.succ m s) z) ∧ Below w0.heap.size w0 w' := by
  have hB := Below.refl w0.heap.size w0
  have sB := hB.size
  refine calls_fs 9 [(0, .int .i64 (m : Int)), (1, lv x)] Try.func55 rfl rfl rfl rfl rfl fun a hF => ?_
  refine wp_rs fun K1 hK1 => ?_
  refine s_box (lc x) hF (by decide) rfl rfl fun w2 b3 a eb3 m3 B3 zb3 hF => ?_
  have sB3 := B3.size
  have hB := hB.trans (B3.mono hB.size)
  refine s_alloc hF (by decide) zero24 fun w4 b4 a eb4 m4 B5 zb4 hF => ?_
  have sB5 := B5.size
  have hB := hB.trans (B5.mono hB.size)
  have m3 := m3.old B5
  refine s_end (hK1 _ _ ?_)
  refine wp_rs fun K2 hK2 => ?_
  refine s_val hF (x_move rfl) (by decide) fun a hF => ?_
  refine s_val hF (x_ldW wide24 m3 rfl rfl) (by decide) fun a hF => ?_
  refine s_litG [lv x] el22 hF (by decide) rfl (by simp [Value.cells, lc]) rfl (by decide) (by decide) fun w6 bl a ebl ml B7 zbl hF => ?_
  have sB7 := B7.size
  have hB := hB.trans (B7.mono hB.size)
  have m3 := m3.old B7
  have m4 := m4.old B7
  refine s_val hF (x_build (vs := [(0, _), (1, _), (2, _)]) rfl (b24_012 _ _ _ _ _ _)) (by decide) fun a hF => ?_
  refine s_putW hF rfl rfl (size_wide wide24) m4 rfl (one3 rfl) fun w8 m4 o9 => ?_
  have so9 := o9.size
  have hB := hB.trans (o9.below (by omega))
  have m3 := m3.only o9 (by omega)
  have ml := ml.only o9 (by omega)
  refine s_end (hK2 _ _ ?_)
  refine wp_ret (res_cell hF rfl rfl m4 wide24 ⟨_, rfl, ⟨(3, (m : Int), .slice (some ⟨bl, 0, none⟩) 1 1), rfl, rfl, rfl, x, Rd.blk (k := 3) (by simpa [Value.cells] using ml) (by simp [lc]), fun j h => .inr (by cases h; show _ ≤ bl; omega), (hx.below hB).mono fun _ h => .inl h⟩, hB⟩)

set_option maxRecDepth 100000 in
set_option maxHeartbeats 1600000 in
theorem parts60 (c : Int) (ks : List Int) (v : Value) (w0 : World) (hc : 0 ≤ c) (hl : ks.length ≤ 1001) (hLo : Lo ks) (hV : Rd w0 v 1 ks.length (ints ks)) : Calls Try.prog 60 #[.agg [.int .i64 c, v].toArray] w0 fun e w' => ∃ u, e = .returned u ∧ (∃ zs, Rd w' u 3 zs.length (zs.flatMap lc) ∧ PL w' (fun k => w0.heap.size ≤ k) zs (pts c ks ks.length)) ∧ Below w0.heap.size w0 w' := by
  obtain ⟨av, cv, rfl, _⟩ := hV.form
  have hB := Below.refl w0.heap.size w0
  have sB := hB.size
  refine calls_fs 49 [(0, .agg [.int .i64 c, .slice av ks.length cv].toArray)] Try.func60 rfl rfl rfl rfl rfl fun a hF => ?_
  refine wp_rs fun K1 hK1 => ?_
  refine s_box ([.int .i64 c, .slice av ks.length cv]) hF (by decide) rfl rfl fun w2 b1 a eb1 m1 B3 zb1 hF => ?_
  have sB3 := B3.size
  have hB := hB.trans (B3.mono hB.size)
  refine s_val hF (x_assign rfl) (by decide) fun a hF => ?_
  refine s_end (hK1 _ _ ?_)
  refine wp_rs fun K2 hK2 => ?_
  refine s_val hF (x_assign rfl) (by decide) fun a hF => ?_
  refine s_end (hK2 _ _ ?_)
  refine wp_seq_k fun K3 hK3 => ?_
  rcases (show c ≠ 0 ∨ (c = 0 ∧ ks.length = 0) ∨ (c = 0 ∧ ks.length ≠ 0) by omega) with hq | hq | hq
  · have hp0 : pts c ks 0 = [.num c.toNat] := by rw [pts, if_pos (.inl hq)]
    refine wp_rs fun K5 hK5 => ?_
    refine s_val hF (x_fa0 fa59_0 rfl) (by decide) fun a hF => ?_
    refine s_val hF (x_load rfl (m_load flat3 (m1.cell (j := 0) rfl))) (by decide) fun a hF => ?_
    refine s_val hF (x_neq (b := true) (decide_eq_true (by omega)) rfl rfl) (by decide) fun a hF => ?_
    refine s_val hF (x_move rfl) (by decide) fun a hF => ?_
    refine s_grdn 9 hF rfl rfl (by decide) fun a hF => ?_
    refine s_grdn 9 hF rfl rfl (by decide) fun a hF => ?_
    refine s_grdn 9 hF rfl rfl (by decide) fun a hF => ?_
    refine s_grdn 9 hF rfl rfl (by decide) fun a hF => ?_
    refine s_val hF (x_pick (b := true) rfl rfl) (by decide) fun a hF => ?_
    refine s_end (hK5 _ _ ?_)
    refine wp_if hF rfl ?_
    refine wp_region_lit ?_
    refine s_val hF (x_move rfl) (by decide) fun a hF => ?_
    refine s_val hF (x_fa0 fa59_0 rfl) (by decide) fun a hF => ?_
    refine s_val hF (x_load rfl (m_load flat3 (m1.cell (j := 0) rfl))) (by decide) fun a hF => ?_
    refine s_callB [_] hF (enters_of Try.func36 (by kernel_rfl) rfl) rfl (by decide) (num36 c w2) fun w4 a B5 hF => ?_
    have sB5 := B5.size
    have hB := hB.trans (B5.mono hB.size)
    have m1 := m1.old B5
    refine s_litG [lv (1, c, .slice none 0 0)] el22 hF (by decide) rfl (by simp [Value.cells, lc]) rfl (by decide) (by decide) fun w6 bl a ebl ml B7 zbl hF => ?_
    have sB7 := B7.size
    have hB := hB.trans (B7.mono hB.size)
    have m1 := m1.old B7
    have ml : Blk w6 bl 24 (lc (1, c, .slice none 0 0)) := by simpa [Value.cells] using ml
    have hO : w6.ownsRow w0.heap.size 24 3 (.slice none 0 0) 0 [] := World.ownsRow_nil _ _ _ _
    have hat : ∀ j, (Value.slice none 0 0).ownBlock = some j → j = b1 := fun j h => by cases h
    have hne : (Value.slice none 0 0).ownBlock ≠ some b1 := fun h => by cases h
    have hm1 := m1.lt
    refine s_app1 (o := b1) el22 hF (by decide) rfl rfl hO ml rfl (one3 rfl) hat (by omega) (by omega) (by decide) (by omega) fun v3 w8 a o3 hOn hOatn how hsrc k9 hkeep hF => ?_
    have sk9 := k9.size
    have hB := k9.under hB (by omega)
    have m1 : Blk w8 b1 _ _ := (hkeep _ m1.lt hne).trans m1
    have ml := ml.k2 k9 (by omega)
    have hO := hOn
    have hO_at := hOatn
    have hneg : v3.ownBlock ≠ some b1 := fun h => by rcases hsrc b1 h with h | h; exact hne h; omega
    refine s_val hF (x_assign rfl) (by decide) fun a hF => ?_
    refine s_end (hK3 _ _ ?_)
    refine wp_seq_k fun K6 hK6 => ?_
    refine wp_rs fun K7 hK7 => ?_
    refine s_val hF (x_fa0 fa59_1 rfl) (by decide) fun a hF => ?_
    refine s_val hF (x_load rfl (m_load flat29 (m1.cell (j := 1) rfl))) (by decide) fun a hF => ?_
    refine s_val hF (x_len Try.underlying29 rfl) (by decide) fun a hF => ?_
    refine s_val hF (x_move rfl) (by decide) fun a hF => ?_
    refine s_end (hK7 _ _ ?_)
    refine wp_block ?_
    have hJ : ∃ v' o' zs, w8.ownsRow w0.heap.size 24 3 v' zs.length (zs.flatMap lc) ∧ (∀ j, v'.ownBlock = some j → j = o') ∧ v'.ownBlock ≠ some b1 ∧ (w0.heap.size ≤ o' ∧ o' < w8.heap.size) ∧ PL w8 (fun k => w0.heap.size ≤ k ∧ k ≠ o' ∧ k < w8.heap.size) zs (pts c ks 0) ∧ v3 = v' := ⟨v3, o3, [(1, c, .slice none 0 0)], by simpa using hO, hO_at, hneg, by omega, by rw [hp0]; exact PL.snoc PL.nil ⟨rfl, by show c = _; omega, Rd.nil _ _⟩, rfl⟩
    obtain ⟨vj, oj, zj, hj1, hj2, hj3, hj4, hj5, hj6⟩ := hJ
    rw [hj6] at hF
    refine wp_up ks.length (fun i a w => ∃ v' o' zs, w.ownsRow w0.heap.size 24 3 v' zs.length (zs.flatMap lc) ∧ (∀ j, v'.ownBlock = some j → j = o') ∧ v'.ownBlock ≠ some b1 ∧ (w0.heap.size ≤ o' ∧ o' < w.heap.size) ∧ PL w (fun k => w0.heap.size ≤ k ∧ k ≠ o' ∧ k < w.heap.size) zs (pts c ks i) ∧ Blk w b1 59 [.int .i64 c, .slice av ks.length cv] ∧ Below w0.heap.size w0 w ∧ Fs 49 a [(24, .int .i64 (i : Int)), (23, .int .i64 (ks.length : Int)), (22, .slice av ks.length cv), (3, v')]) ⟨vj, oj, zj, hj1, hj2, hj3, hj4, hj5, m1, hB, hF.sub _ rfl⟩ ?_
    repeat clear hF
    clear hB m1
    rintro i a w hi ⟨vv, o2, zs, hO, hat, hne, hlo, hP, m1, hB, hF⟩ K' hK'
    have sB := hB.size
    have hm1 := m1.lt
    obtain ⟨top, htop⟩ : ∃ h, h = w.heap.size := ⟨_, rfl⟩
    rw [← htop] at hP
    have hPl := hP.1
    have hple := pts_le c ks i
    refine wp_rs fun K8 hK8 => ?_
    refine s_val hF (x_lss rfl rfl rfl) (by decide) fun a hF => ?_
    refine s_end (hK8 _ _ ?_)
    refine wp_seq_k fun K9 hK9 => ?_
    refine wp_iff hF rfl (fun hc25 => ?_) (fun hc25 => ?_)
    · have hgi := hLo.gt i
      obtain ⟨b6, off6, c6, hve, hrow⟩ := rd_rowI hV (i := i) (by omega)
      cases hve
      refine wp_skip (hK9 _ _ ?_)
      refine wp_seq_k fun K10 hK10 => ?_
      refine wp_block ?_
      refine wp_rs fun K11 hK11 => ?_
      refine s_val hF (x_move rfl) (by decide) fun a hF => ?_
      refine s_val hF (x_ixa rfl rfl (m_ixs i Try.underlying29 el29.size rfl (by omega))) (by decide) fun a hF => ?_
      refine s_val hF (x_load rfl (m_load flat3 (hrow _ hB))) (by decide) fun a hF => ?_
      refine s_val hF (x_assign rfl) (by decide) fun a hF => ?_
      refine s_val hF (x_assign rfl) (by decide) fun a hF => ?_
      refine s_end (hK11 _ _ ?_)
      refine wp_block ?_
      rcases (show gt ks i = -1 ∨ gt ks i = 0 ∨ 0 < gt ks i by omega) with hg | hg | hg
      · have hp1 : part1 i (gt ks i) = [] := by rw [part1, if_pos (by omega)]
        refine wp_rs fun K13 hK13 => ?_
        refine s_val hF (x_move rfl) (by decide) fun a hF => ?_
        refine s_val hF (x_eql (b := true) (decide_eq_true (by omega)) rfl rfl) (by decide) fun a hF => ?_
        refine s_val hF (x_assign rfl) (by decide) fun a hF => ?_
        refine s_end (hK13 _ _ ?_)
        refine wp_if hF rfl ?_
        refine wp_skip (hK10 _ _ ?_)
        refine wp_region_lit ?_
        refine s_val hF (x_addn (i + 1) (by omega) (by omega) rfl rfl) (by decide) fun a hF => ?_
        refine s_val hF (x_move rfl) (by decide) fun a hF => ?_
        refine s_end (hK' _ _ (by omega) ⟨vv, o2, zs, hO, hat, hne, by omega, by rw [pts, hp1, List.append_nil]; exact hP.mono (fun k (hk : w0.heap.size ≤ k ∧ k ≠ o2 ∧ k < top) => (by omega : _ ∧ _ ∧ _)), m1, hB, hF.sub _ rfl⟩)
      · have hp1 : part1 i (gt ks i) = [.var i] := by rw [part1, if_neg (by omega), if_pos hg]
        refine wp_rs fun K14 hK14 => ?_
        refine s_val hF (x_move rfl) (by decide) fun a hF => ?_
        refine s_val hF (x_eql (b := false) (decide_eq_false (by omega)) rfl rfl) (by decide) fun a hF => ?_
        refine s_val hF (x_assign rfl) (by decide) fun a hF => ?_
        refine s_end (hK14 _ _ ?_)
        refine wp_if hF rfl ?_
        refine wp_rs fun K15 hK15 => ?_
        refine s_val hF (x_move rfl) (by decide) fun a hF => ?_
        refine s_val hF (x_eql (b := true) (decide_eq_true (by omega)) rfl rfl) (by decide) fun a hF => ?_
        refine s_val hF (x_assign rfl) (by decide) fun a hF => ?_
        refine s_end (hK15 _ _ ?_)
        refine wp_if hF rfl ?_
        refine wp_region_lit ?_
        refine s_val hF (x_move rfl) (by decide) fun a hF => ?_
        refine s_val hF (x_move rfl) (by decide) fun a hF => ?_
        refine s_callB [_] hF (enters_of Try.func37 (by kernel_rfl) rfl) rfl (by decide) (var37 (i : Int) w) fun w10 a B11 hF => ?_
        have sB11 := B11.size
        have hB := hB.trans (B11.mono hB.size)
        have m1 := m1.old B11
        have hO := own_below hO B11
        have hP := hP.below B11
        refine s_litG [lv (2, (i : Int), .slice none 0 0)] el22 hF (by decide) rfl (by simp [Value.cells, lc]) rfl (by decide) (by decide) fun w12 bl a ebl ml B13 zbl hF => ?_
        have sB13 := B13.size
        have hB := hB.trans (B13.mono hB.size)
        have m1 := m1.old B13
        have hO := own_below hO B13
        have hP := hP.below B13
        have ml : Blk w12 bl 24 (lc (2, (i : Int), .slice none 0 0)) := by simpa [Value.cells] using ml
        refine s_app1 (o := o2) el22 hF (by decide) rfl rfl hO ml rfl (one3 rfl) hat (by omega) (by omega) (by decide) (by omega) fun v3 w14 a o3 hOn hOatn how hsrc k15 hkeep hF => ?_
        have sk15 := k15.size
        have hB := k15.under hB (by omega)
        have m1 : Blk w14 b1 _ _ := (hkeep _ m1.lt hne).trans m1
        have hP := hP.k2 k15 (fun k (hk : w0.heap.size ≤ k ∧ k ≠ o2 ∧ k < top) => by omega)
        have ml := ml.k2 k15 (by omega)
        have hO := hOn
        have hO_at := hOatn
        have hneg : v3.ownBlock ≠ some b1 := fun h => by rcases hsrc b1 h with h | h; exact hne h; omega
        refine s_val hF (x_assign rfl) (by decide) fun a hF => ?_
        refine s_end (hK10 _ _ ?_)
        refine wp_region_lit ?_
        refine s_val hF (x_addn (i + 1) (by omega) (by omega) rfl rfl) (by decide) fun a hF => ?_
        refine s_val hF (x_move rfl) (by decide) fun a hF => ?_
        refine s_end (hK' _ _ (by omega) ⟨v3, o3, zs ++ [(2, (i : Int), .slice none 0 0)], by rw [fm3_app]; simpa using hO, hO_at, hneg, by omega, by rw [pts, hp1]; exact (hP.mono (fun k (hk : w0.heap.size ≤ k ∧ k ≠ o2 ∧ k < top) => (by omega : _ ∧ _ ∧ _))).snoc (⟨rfl, rfl, Rd.nil _ _⟩), m1, hB, hF.sub _ rfl⟩)
      · have hp1 : part1 i (gt ks i) = [.succ (gt ks i).toNat (.var i)] := by rw [part1, if_neg (by omega), if_neg (by omega)]
        refine wp_rs fun K16 hK16 => ?_
        refine s_val hF (x_move rfl) (by decide) fun a hF => ?_
        refine s_val hF (x_eql (b := false) (decide_eq_false (by omega)) rfl rfl) (by decide) fun a hF => ?_
        refine s_val hF (x_assign rfl) (by decide) fun a hF => ?_
        refine s_end (hK16 _ _ ?_)
        refine wp_if hF rfl ?_
        refine wp_rs fun K17 hK17 => ?_
        refine s_val hF (x_move rfl) (by decide) fun a hF => ?_
        refine s_val hF (x_eql (b := false) (decide_eq_false (by omega)) rfl rfl) (by decide) fun a hF => ?_
        refine s_val hF (x_assign rfl) (by decide) fun a hF => ?_
        refine s_end (hK17 _ _ ?_)
        refine wp_if hF rfl ?_
        refine wp_region_lit ?_
        refine s_val hF (x_move rfl) (by decide) fun a hF => ?_
        refine s_val hF (x_move (v := .int .i64 ((gt ks i).toNat : Int)) (by rw [show ((gt ks i).toNat : Int) = gt ks i by omega]; rfl)) (by decide) fun a hF => ?_
        refine s_val hF (x_move rfl) (by decide) fun a hF => ?_
        refine s_callB [_] hF (enters_of Try.func37 (by kernel_rfl) rfl) rfl (by decide) (var37 (i : Int) w) fun w16 a B17 hF => ?_
        have sB17 := B17.size
        have hB := hB.trans (B17.mono hB.size)
        have m1 := m1.old B17
        have hO := own_below hO B17
        have hP := hP.below B17
        refine s_callR (R := fun v w' => ∃ z, v = lv z ∧ RSn w' (fun k => False ∨ w16.heap.size ≤ k) (.succ (gt ks i).toNat (.var i)) z) [_, _] hF (enters_of Try.func55 (by kernel_rfl) rfl) rfl (by decide) (succ55n (fun _ => False) (gt ks i).toNat (.var i) (2, (i : Int), .slice none 0 0) w16 ⟨rfl, rfl, Rd.nil _ _⟩) ?_
        rintro _ w18 a ⟨z, rfl, hz0⟩ B19 hF
        have sB19 := B19.size
        have hB := hB.trans (B19.mono hB.size)
        have m1 := m1.old B19
        have hO := own_below hO B19
        have hP := hP.below B19
        have hz := (hz0.valid).mono (B := fun k => w16.heap.size ≤ k ∧ k < w18.heap.size) (fun k h => ⟨h.1.resolve_left (fun x => x), h.2⟩)
        clear hz0
        have h1z := hz.rs.one1
        refine s_litG [lv z] el22 hF (by decide) rfl (by simp [Value.cells, lc]) rfl (by decide) (by decide) fun w20 bl a ebl ml B21 zbl hF => ?_
        have sB21 := B21.size
        have hB := hB.trans (B21.mono hB.size)
        have m1 := m1.old B21
        have hO := own_below hO B21
        have hP := hP.below B21
        have hz := hz.below B21
        have ml : Blk w20 bl 24 (lc z) := by simpa [Value.cells] using ml
        refine s_app1 (o := o2) el22 hF (by decide) rfl rfl hO ml rfl (one_lc h1z) hat (by omega) (by omega) (by decide) (by omega) fun v3 w22 a o3 hOn hOatn how hsrc k23 hkeep hF => ?_
        have sk23 := k23.size
        have hB := k23.under hB (by omega)
        have m1 : Blk w22 b1 _ _ := (hkeep _ m1.lt hne).trans m1
        have hP := hP.k2 k23 (fun k (hk : w0.heap.size ≤ k ∧ k ≠ o2 ∧ k < top) => by omega)
        have hz := hz.k2 k23 (fun k (hk : w16.heap.size ≤ k ∧ k < w18.heap.size) => by omega)
        have ml := ml.k2 k23 (by omega)
        have hO := hOn
        have hO_at := hOatn
        have hneg : v3.ownBlock ≠ some b1 := fun h => by rcases hsrc b1 h with h | h; exact hne h; omega
        refine s_val hF (x_assign rfl) (by decide) fun a hF => ?_
        refine s_end (hK10 _ _ ?_)
        refine wp_region_lit ?_
        refine s_val hF (x_addn (i + 1) (by omega) (by omega) rfl rfl) (by decide) fun a hF => ?_
        refine s_val hF (x_move rfl) (by decide) fun a hF => ?_
        refine s_end (hK' _ _ (by omega) ⟨v3, o3, zs ++ [z], by rw [fm3_app]; simpa using hO, hO_at, hneg, by omega, by rw [pts, hp1]; exact (hP.mono (fun k (hk : w0.heap.size ≤ k ∧ k ≠ o2 ∧ k < top) => (by omega : _ ∧ _ ∧ _))).snoc (hz.mono (fun k (hk : w16.heap.size ≤ k ∧ k < w18.heap.size) => (by omega : _ ∧ _ ∧ _))), m1, hB, hF.sub _ rfl⟩)
    · obtain rfl : i = ks.length := by omega
      refine wp_exit (hK6 _ _ ?_)
      refine wp_rs fun K18 hK18 => ?_
      refine s_val hF (x_move rfl) (by decide) fun a hF => ?_
      refine s_val hF (x_assign rfl) (by decide) fun a hF => ?_
      refine s_end (hK18 _ _ ?_)
      refine wp_ret (res_slot hF rfl rfl ⟨_, rfl, ⟨zs, Rd.own hO, hP.mono (fun k (hk : w0.heap.size ≤ k ∧ k ≠ o2 ∧ k < top) => (by omega : _ ≤ _))⟩, hB⟩)
  · have hp0 : pts c ks 0 = [.num c.toNat] := by rw [pts, if_pos (.inr (List.eq_nil_of_length_eq_zero hq.2))]
    refine wp_rs fun K19 hK19 => ?_
    refine s_val hF (x_fa0 fa59_0 rfl) (by decide) fun a hF => ?_
    refine s_val hF (x_load rfl (m_load flat3 (m1.cell (j := 0) rfl))) (by decide) fun a hF => ?_
    refine s_val hF (x_neq (b := false) (decide_eq_false (by omega)) rfl rfl) (by decide) fun a hF => ?_
    refine s_val hF (x_move rfl) (by decide) fun a hF => ?_
    refine s_grd 9 hF rfl rfl rfl ?_
    refine s_val hF (x_fa0 fa59_1 rfl) (by decide) fun a hF => ?_
    refine s_grd 9 hF rfl rfl rfl ?_
    refine s_val hF (x_load rfl (m_load flat29 (m1.cell (j := 1) rfl))) (by decide) fun a hF => ?_
    refine s_grd 9 hF rfl rfl rfl ?_
    refine s_val hF (x_len Try.underlying29 rfl) (by decide) fun a hF => ?_
    refine s_grd 9 hF rfl rfl rfl ?_
    refine s_val hF (x_eql (b := true) (decide_eq_true (by omega)) rfl rfl) (by decide) fun a hF => ?_
    refine s_val hF (x_pick (b := false) rfl rfl) (by decide) fun a hF => ?_
    refine s_end (hK19 _ _ ?_)
    refine wp_if hF rfl ?_
    refine wp_region_lit ?_
    refine s_val hF (x_move rfl) (by decide) fun a hF => ?_
    refine s_val hF (x_fa0 fa59_0 rfl) (by decide) fun a hF => ?_
    refine s_val hF (x_load rfl (m_load flat3 (m1.cell (j := 0) rfl))) (by decide) fun a hF => ?_
    refine s_callB [_] hF (enters_of Try.func36 (by kernel_rfl) rfl) rfl (by decide) (num36 c w2) fun w24 a B25 hF => ?_
    have sB25 := B25.size
    have hB := hB.trans (B25.mono hB.size)
    have m1 := m1.old B25
    refine s_litG [lv (1, c, .slice none 0 0)] el22 hF (by decide) rfl (by simp [Value.cells, lc]) rfl (by decide) (by decide) fun w26 bl a ebl ml B27 zbl hF => ?_
    have sB27 := B27.size
    have hB := hB.trans (B27.mono hB.size)
    have m1 := m1.old B27
    have ml : Blk w26 bl 24 (lc (1, c, .slice none 0 0)) := by simpa [Value.cells] using ml
    have hO : w26.ownsRow w0.heap.size 24 3 (.slice none 0 0) 0 [] := World.ownsRow_nil _ _ _ _
    have hat : ∀ j, (Value.slice none 0 0).ownBlock = some j → j = b1 := fun j h => by cases h
    have hne : (Value.slice none 0 0).ownBlock ≠ some b1 := fun h => by cases h
    have hm1 := m1.lt
    refine s_app1 (o := b1) el22 hF (by decide) rfl rfl hO ml rfl (one3 rfl) hat (by omega) (by omega) (by decide) (by omega) fun v3 w28 a o3 hOn hOatn how hsrc k29 hkeep hF => ?_
    have sk29 := k29.size
    have hB := k29.under hB (by omega)
    have m1 : Blk w28 b1 _ _ := (hkeep _ m1.lt hne).trans m1
    have ml := ml.k2 k29 (by omega)
    have hO := hOn
    have hO_at := hOatn
    have hneg : v3.ownBlock ≠ some b1 := fun h => by rcases hsrc b1 h with h | h; exact hne h; omega
    refine s_val hF (x_assign rfl) (by decide) fun a hF => ?_
    refine s_end (hK3 _ _ ?_)
    refine wp_seq_k fun K20 hK20 => ?_
    refine wp_rs fun K21 hK21 => ?_
    refine s_val hF (x_fa0 fa59_1 rfl) (by decide) fun a hF => ?_
    refine s_val hF (x_load rfl (m_load flat29 (m1.cell (j := 1) rfl))) (by decide) fun a hF => ?_
    refine s_val hF (x_len Try.underlying29 rfl) (by decide) fun a hF => ?_
    refine s_val hF (x_move rfl) (by decide) fun a hF => ?_
    refine s_end (hK21 _ _ ?_)
    refine wp_block ?_
    have hJ : ∃ v' o' zs, w28.ownsRow w0.heap.size 24 3 v' zs.length (zs.flatMap lc) ∧ (∀ j, v'.ownBlock = some j → j = o') ∧ v'.ownBlock ≠ some b1 ∧ (w0.heap.size ≤ o' ∧ o' < w28.heap.size) ∧ PL w28 (fun k => w0.heap.size ≤ k ∧ k ≠ o' ∧ k < w28.heap.size) zs (pts c ks 0) ∧ v3 = v' := ⟨v3, o3, [(1, c, .slice none 0 0)], by simpa using hO, hO_at, hneg, by omega, by rw [hp0]; exact PL.snoc PL.nil ⟨rfl, by show c = _; omega, Rd.nil _ _⟩, rfl⟩
    obtain ⟨vj, oj, zj, hj1, hj2, hj3, hj4, hj5, hj6⟩ := hJ
    rw [hj6] at hF
    refine wp_up ks.length (fun i a w => ∃ v' o' zs, w.ownsRow w0.heap.size 24 3 v' zs.length (zs.flatMap lc) ∧ (∀ j, v'.ownBlock = some j → j = o') ∧ v'.ownBlock ≠ some b1 ∧ (w0.heap.size ≤ o' ∧ o' < w.heap.size) ∧ PL w (fun k => w0.heap.size ≤ k ∧ k ≠ o' ∧ k < w.heap.size) zs (pts c ks i) ∧ Blk w b1 59 [.int .i64 c, .slice av ks.length cv] ∧ Below w0.heap.size w0 w ∧ Fs 49 a [(24, .int .i64 (i : Int)), (23, .int .i64 (ks.length : Int)), (22, .slice av ks.length cv), (3, v')]) ⟨vj, oj, zj, hj1, hj2, hj3, hj4, hj5, m1, hB, hF.sub _ rfl⟩ ?_
    repeat clear hF
    clear hB m1
    rintro i a w hi ⟨vv, o2, zs, hO, hat, hne, hlo, hP, m1, hB, hF⟩ K' hK'
    have sB := hB.size
    have hm1 := m1.lt
    obtain ⟨top, htop⟩ : ∃ h, h = w.heap.size := ⟨_, rfl⟩
    rw [← htop] at hP
    have hPl := hP.1
    have hple := pts_le c ks i
    refine wp_rs fun K22 hK22 => ?_
    refine s_val hF (x_lss rfl rfl rfl) (by decide) fun a hF => ?_
    refine s_end (hK22 _ _ ?_)
    refine wp_seq_k fun K23 hK23 => ?_
    refine wp_iff hF rfl (fun hc25 => ?_) (fun hc25 => ?_)
    · have hgi := hLo.gt i
      obtain ⟨b6, off6, c6, hve, hrow⟩ := rd_rowI hV (i := i) (by omega)
      cases hve
      refine wp_skip (hK23 _ _ ?_)
      refine wp_seq_k fun K24 hK24 => ?_
      refine wp_block ?_
      refine wp_rs fun K25 hK25 => ?_
      refine s_val hF (x_move rfl) (by decide) fun a hF => ?_
      refine s_val hF (x_ixa rfl rfl (m_ixs i Try.underlying29 el29.size rfl (by omega))) (by decide) fun a hF => ?_
      refine s_val hF (x_load rfl (m_load flat3 (hrow _ hB))) (by decide) fun a hF => ?_
      refine s_val hF (x_assign rfl) (by decide) fun a hF => ?_
      refine s_val hF (x_assign rfl) (by decide) fun a hF => ?_
      refine s_end (hK25 _ _ ?_)
      refine wp_block ?_
      rcases (show gt ks i = -1 ∨ gt ks i = 0 ∨ 0 < gt ks i by omega) with hg | hg | hg
      · have hp1 : part1 i (gt ks i) = [] := by rw [part1, if_pos (by omega)]
        refine wp_rs fun K27 hK27 => ?_
        refine s_val hF (x_move rfl) (by decide) fun a hF => ?_
        refine s_val hF (x_eql (b := true) (decide_eq_true (by omega)) rfl rfl) (by decide) fun a hF => ?_
        refine s_val hF (x_assign rfl) (by decide) fun a hF => ?_
        refine s_end (hK27 _ _ ?_)
        refine wp_if hF rfl ?_
        refine wp_skip (hK24 _ _ ?_)
        refine wp_region_lit ?_
        refine s_val hF (x_addn (i + 1) (by omega) (by omega) rfl rfl) (by decide) fun a hF => ?_
        refine s_val hF (x_move rfl) (by decide) fun a hF => ?_
        refine s_end (hK' _ _ (by omega) ⟨vv, o2, zs, hO, hat, hne, by omega, by rw [pts, hp1, List.append_nil]; exact hP.mono (fun k (hk : w0.heap.size ≤ k ∧ k ≠ o2 ∧ k < top) => (by omega : _ ∧ _ ∧ _)), m1, hB, hF.sub _ rfl⟩)
      · have hp1 : part1 i (gt ks i) = [.var i] := by rw [part1, if_neg (by omega), if_pos hg]
        refine wp_rs fun K28 hK28 => ?_
        refine s_val hF (x_move rfl) (by decide) fun a hF => ?_
        refine s_val hF (x_eql (b := false) (decide_eq_false (by omega)) rfl rfl) (by decide) fun a hF => ?_
        refine s_val hF (x_assign rfl) (by decide) fun a hF => ?_
        refine s_end (hK28 _ _ ?_)
        refine wp_if hF rfl ?_
        refine wp_rs fun K29 hK29 => ?_
        refine s_val hF (x_move rfl) (by decide) fun a hF => ?_
        refine s_val hF (x_eql (b := true) (decide_eq_true (by omega)) rfl rfl) (by decide) fun a hF => ?_
        refine s_val hF (x_assign rfl) (by decide) fun a hF => ?_
        refine s_end (hK29 _ _ ?_)
        refine wp_if hF rfl ?_
        refine wp_region_lit ?_
        refine s_val hF (x_move rfl) (by decide) fun a hF => ?_
        refine s_val hF (x_move rfl) (by decide) fun a hF => ?_
        refine s_callB [_] hF (enters_of Try.func37 (by kernel_rfl) rfl) rfl (by decide) (var37 (i : Int) w) fun w30 a B31 hF => ?_
        have sB31 := B31.size
        have hB := hB.trans (B31.mono hB.size)
        have m1 := m1.old B31
        have hO := own_below hO B31
        have hP := hP.below B31
        refine s_litG [lv (2, (i : Int), .slice none 0 0)] el22 hF (by decide) rfl (by simp [Value.cells, lc]) rfl (by decide) (by decide) fun w32 bl a ebl ml B33 zbl hF => ?_
        have sB33 := B33.size
        have hB := hB.trans (B33.mono hB.size)
        have m1 := m1.old B33
        have hO := own_below hO B33
        have hP := hP.below B33
        have ml : Blk w32 bl 24 (lc (2, (i : Int), .slice none 0 0)) := by simpa [Value.cells] using ml
        refine s_app1 (o := o2) el22 hF (by decide) rfl rfl hO ml rfl (one3 rfl) hat (by omega) (by omega) (by decide) (by omega) fun v3 w34 a o3 hOn hOatn how hsrc k35 hkeep hF => ?_
        have sk35 := k35.size
        have hB := k35.under hB (by omega)
        have m1 : Blk w34 b1 _ _ := (hkeep _ m1.lt hne).trans m1
        have hP := hP.k2 k35 (fun k (hk : w0.heap.size ≤ k ∧ k ≠ o2 ∧ k < top) => by omega)
        have ml := ml.k2 k35 (by omega)
        have hO := hOn
        have hO_at := hOatn
        have hneg : v3.ownBlock ≠ some b1 := fun h => by rcases hsrc b1 h with h | h; exact hne h; omega
        refine s_val hF (x_assign rfl) (by decide) fun a hF => ?_
        refine s_end (hK24 _ _ ?_)
        refine wp_region_lit ?_
        refine s_val hF (x_addn (i + 1) (by omega) (by omega) rfl rfl) (by decide) fun a hF => ?_
        refine s_val hF (x_move rfl) (by decide) fun a hF => ?_
        refine s_end (hK' _ _ (by omega) ⟨v3, o3, zs ++ [(2, (i : Int), .slice none 0 0)], by rw [fm3_app]; simpa using hO, hO_at, hneg, by omega, by rw [pts, hp1]; exact (hP.mono (fun k (hk : w0.heap.size ≤ k ∧ k ≠ o2 ∧ k < top) => (by omega : _ ∧ _ ∧ _))).snoc (⟨rfl, rfl, Rd.nil _ _⟩), m1, hB, hF.sub _ rfl⟩)
      · have hp1 : part1 i (gt ks i) = [.succ (gt ks i).toNat (.var i)] := by rw [part1, if_neg (by omega), if_neg (by omega)]
        refine wp_rs fun K30 hK30 => ?_
        refine s_val hF (x_move rfl) (by decide) fun a hF => ?_
        refine s_val hF (x_eql (b := false) (decide_eq_false (by omega)) rfl rfl) (by decide) fun a hF => ?_
        refine s_val hF (x_assign rfl) (by decide) fun a hF => ?_
        refine s_end (hK30 _ _ ?_)
        refine wp_if hF rfl ?_
        refine wp_rs fun K31 hK31 => ?_
        refine s_val hF (x_move rfl) (by decide) fun a hF => ?_
        refine s_val hF (x_eql (b := false) (decide_eq_false (by omega)) rfl rfl) (by decide) fun a hF => ?_
        refine s_val hF (x_assign rfl) (by decide) fun a hF => ?_
        refine s_end (hK31 _ _ ?_)
        refine wp_if hF rfl ?_
        refine wp_region_lit ?_
        refine s_val hF (x_move rfl) (by decide) fun a hF => ?_
        refine s_val hF (x_move (v := .int .i64 ((gt ks i).toNat : Int)) (by rw [show ((gt ks i).toNat : Int) = gt ks i by omega]; rfl)) (by decide) fun a hF => ?_
        refine s_val hF (x_move rfl) (by decide) fun a hF => ?_
        refine s_callB [_] hF (enters_of Try.func37 (by kernel_rfl) rfl) rfl (by decide) (var37 (i : Int) w) fun w36 a B37 hF => ?_
        have sB37 := B37.size
        have hB := hB.trans (B37.mono hB.size)
        have m1 := m1.old B37
        have hO := own_below hO B37
        have hP := hP.below B37
        refine s_callR (R := fun v w' => ∃ z, v = lv z ∧ RSn w' (fun k => False ∨ w36.heap.size ≤ k) (.succ (gt ks i).toNat (.var i)) z) [_, _] hF (enters_of Try.func55 (by kernel_rfl) rfl) rfl (by decide) (succ55n (fun _ => False) (gt ks i).toNat (.var i) (2, (i : Int), .slice none 0 0) w36 ⟨rfl, rfl, Rd.nil _ _⟩) ?_
        rintro _ w38 a ⟨z, rfl, hz0⟩ B39 hF
        have sB39 := B39.size
        have hB := hB.trans (B39.mono hB.size)
        have m1 := m1.old B39
        have hO := own_below hO B39
        have hP := hP.below B39
        have hz := (hz0.valid).mono (B := fun k => w36.heap.size ≤ k ∧ k < w38.heap.size) (fun k h => ⟨h.1.resolve_left (fun x => x), h.2⟩)
        clear hz0
        have h1z := hz.rs.one1
        refine s_litG [lv z] el22 hF (by decide) rfl (by simp [Value.cells, lc]) rfl (by decide) (by decide) fun w40 bl a ebl ml B41 zbl hF => ?_
        have sB41 := B41.size
        have hB := hB.trans (B41.mono hB.size)
        have m1 := m1.old B41
        have hO := own_below hO B41
        have hP := hP.below B41
        have hz := hz.below B41
        have ml : Blk w40 bl 24 (lc z) := by simpa [Value.cells] using ml
        refine s_app1 (o := o2) el22 hF (by decide) rfl rfl hO ml rfl (one_lc h1z) hat (by omega) (by omega) (by decide) (by omega) fun v3 w42 a o3 hOn hOatn how hsrc k43 hkeep hF => ?_
        have sk43 := k43.size
        have hB := k43.under hB (by omega)
        have m1 : Blk w42 b1 _ _ := (hkeep _ m1.lt hne).trans m1
        have hP := hP.k2 k43 (fun k (hk : w0.heap.size ≤ k ∧ k ≠ o2 ∧ k < top) => by omega)
        have hz := hz.k2 k43 (fun k (hk : w36.heap.size ≤ k ∧ k < w38.heap.size) => by omega)
        have ml := ml.k2 k43 (by omega)
        have hO := hOn
        have hO_at := hOatn
        have hneg : v3.ownBlock ≠ some b1 := fun h => by rcases hsrc b1 h with h | h; exact hne h; omega
        refine s_val hF (x_assign rfl) (by decide) fun a hF => ?_
        refine s_end (hK24 _ _ ?_)
        refine wp_region_lit ?_
        refine s_val hF (x_addn (i + 1) (by omega) (by omega) rfl rfl) (by decide) fun a hF => ?_
        refine s_val hF (x_move rfl) (by decide) fun a hF => ?_
        refine s_end (hK' _ _ (by omega) ⟨v3, o3, zs ++ [z], by rw [fm3_app]; simpa using hO, hO_at, hneg, by omega, by rw [pts, hp1]; exact (hP.mono (fun k (hk : w0.heap.size ≤ k ∧ k ≠ o2 ∧ k < top) => (by omega : _ ∧ _ ∧ _))).snoc (hz.mono (fun k (hk : w36.heap.size ≤ k ∧ k < w38.heap.size) => (by omega : _ ∧ _ ∧ _))), m1, hB, hF.sub _ rfl⟩)
    · obtain rfl : i = ks.length := by omega
      refine wp_exit (hK20 _ _ ?_)
      refine wp_rs fun K32 hK32 => ?_
      refine s_val hF (x_move rfl) (by decide) fun a hF => ?_
      refine s_val hF (x_assign rfl) (by decide) fun a hF => ?_
      refine s_end (hK32 _ _ ?_)
      refine wp_ret (res_slot hF rfl rfl ⟨_, rfl, ⟨zs, Rd.own hO, hP.mono (fun k (hk : w0.heap.size ≤ k ∧ k ≠ o2 ∧ k < top) => (by omega : _ ≤ _))⟩, hB⟩)
  · have hp0 : pts c ks 0 = [] := by rw [pts, if_neg]; rintro (h | h); exact h hq.1; exact hq.2 (by rw [h]; rfl)
    refine wp_rs fun K33 hK33 => ?_
    refine s_val hF (x_fa0 fa59_0 rfl) (by decide) fun a hF => ?_
    refine s_val hF (x_load rfl (m_load flat3 (m1.cell (j := 0) rfl))) (by decide) fun a hF => ?_
    refine s_val hF (x_neq (b := false) (decide_eq_false (by omega)) rfl rfl) (by decide) fun a hF => ?_
    refine s_val hF (x_move rfl) (by decide) fun a hF => ?_
    refine s_grd 9 hF rfl rfl rfl ?_
    refine s_val hF (x_fa0 fa59_1 rfl) (by decide) fun a hF => ?_
    refine s_grd 9 hF rfl rfl rfl ?_
    refine s_val hF (x_load rfl (m_load flat29 (m1.cell (j := 1) rfl))) (by decide) fun a hF => ?_
    refine s_grd 9 hF rfl rfl rfl ?_
    refine s_val hF (x_len Try.underlying29 rfl) (by decide) fun a hF => ?_
    refine s_grd 9 hF rfl rfl rfl ?_
    refine s_val hF (x_eql (b := false) (decide_eq_false (by omega)) rfl rfl) (by decide) fun a hF => ?_
    refine s_val hF (x_pick (b := false) rfl rfl) (by decide) fun a hF => ?_
    refine s_end (hK33 _ _ ?_)
    refine wp_if hF rfl ?_
    refine wp_skip (hK3 _ _ ?_)
    refine wp_seq_k fun K34 hK34 => ?_
    refine wp_rs fun K35 hK35 => ?_
    refine s_val hF (x_fa0 fa59_1 rfl) (by decide) fun a hF => ?_
    refine s_val hF (x_load rfl (m_load flat29 (m1.cell (j := 1) rfl))) (by decide) fun a hF => ?_
    refine s_val hF (x_len Try.underlying29 rfl) (by decide) fun a hF => ?_
    refine s_val hF (x_move rfl) (by decide) fun a hF => ?_
    refine s_end (hK35 _ _ ?_)
    refine wp_block ?_
    have hJ : ∃ v' o' zs, w2.ownsRow w0.heap.size 24 3 v' zs.length (zs.flatMap lc) ∧ (∀ j, v'.ownBlock = some j → j = o') ∧ v'.ownBlock ≠ some b1 ∧ (w0.heap.size ≤ o' ∧ o' < w2.heap.size) ∧ PL w2 (fun k => w0.heap.size ≤ k ∧ k ≠ o' ∧ k < w2.heap.size) zs (pts c ks 0) ∧ Value.slice none 0 0 = v' := ⟨_, b1, [], World.ownsRow_nil _ _ _ _, (fun j h => by cases h), (fun h => by cases h), by have := m1.lt; omega, by rw [hp0]; exact PL.nil, rfl⟩
    obtain ⟨vj, oj, zj, hj1, hj2, hj3, hj4, hj5, hj6⟩ := hJ
    rw [hj6] at hF
    refine wp_up ks.length (fun i a w => ∃ v' o' zs, w.ownsRow w0.heap.size 24 3 v' zs.length (zs.flatMap lc) ∧ (∀ j, v'.ownBlock = some j → j = o') ∧ v'.ownBlock ≠ some b1 ∧ (w0.heap.size ≤ o' ∧ o' < w.heap.size) ∧ PL w (fun k => w0.heap.size ≤ k ∧ k ≠ o' ∧ k < w.heap.size) zs (pts c ks i) ∧ Blk w b1 59 [.int .i64 c, .slice av ks.length cv] ∧ Below w0.heap.size w0 w ∧ Fs 49 a [(24, .int .i64 (i : Int)), (23, .int .i64 (ks.length : Int)), (22, .slice av ks.length cv), (3, v')]) ⟨vj, oj, zj, hj1, hj2, hj3, hj4, hj5, m1, hB, hF.sub _ rfl⟩ ?_
    repeat clear hF
    clear hB m1
    rintro i a w hi ⟨vv, o2, zs, hO, hat, hne, hlo, hP, m1, hB, hF⟩ K' hK'
    have sB := hB.size
    have hm1 := m1.lt
    obtain ⟨top, htop⟩ : ∃ h, h = w.heap.size := ⟨_, rfl⟩
    rw [← htop] at hP
    have hPl := hP.1
    have hple := pts_le c ks i
    refine wp_rs fun K36 hK36 => ?_
    refine s_val hF (x_lss rfl rfl rfl) (by decide) fun a hF => ?_
    refine s_end (hK36 _ _ ?_)
    refine wp_seq_k fun K37 hK37 => ?_
    refine wp_iff hF rfl (fun hc25 => ?_) (fun hc25 => ?_)
    · have hgi := hLo.gt i
      obtain ⟨b6, off6, c6, hve, hrow⟩ := rd_rowI hV (i := i) (by omega)
      cases hve
      refine wp_skip (hK37 _ _ ?_)
      refine wp_seq_k fun K38 hK38 => ?_
      refine wp_block ?_
      refine wp_rs fun K39 hK39 => ?_
      refine s_val hF (x_move rfl) (by decide) fun a hF => ?_
      refine s_val hF (x_ixa rfl rfl (m_ixs i Try.underlying29 el29.size rfl (by omega))) (by decide) fun a hF => ?_
      refine s_val hF (x_load rfl (m_load flat3 (hrow _ hB))) (by decide) fun a hF => ?_
      refine s_val hF (x_assign rfl) (by decide) fun a hF => ?_
      refine s_val hF (x_assign rfl) (by decide) fun a hF => ?_
      refine s_end (hK39 _ _ ?_)
      refine wp_block ?_
      rcases (show gt ks i = -1 ∨ gt ks i = 0 ∨ 0 < gt ks i by omega) with hg | hg | hg
      · have hp1 : part1 i (gt ks i) = [] := by rw [part1, if_pos (by omega)]
        refine wp_rs fun K41 hK41 => ?_
        refine s_val hF (x_move rfl) (by decide) fun a hF => ?_
        refine s_val hF (x_eql (b := true) (decide_eq_true (by omega)) rfl rfl) (by decide) fun a hF => ?_
        refine s_val hF (x_assign rfl) (by decide) fun a hF => ?_
        refine s_end (hK41 _ _ ?_)
        refine wp_if hF rfl ?_
        refine wp_skip (hK38 _ _ ?_)
        refine wp_region_lit ?_
        refine s_val hF (x_addn (i + 1) (by omega) (by omega) rfl rfl) (by decide) fun a hF => ?_
        refine s_val hF (x_move rfl) (by decide) fun a hF => ?_
        refine s_end (hK' _ _ (by omega) ⟨vv, o2, zs, hO, hat, hne, by omega, by rw [pts, hp1, List.append_nil]; exact hP.mono (fun k (hk : w0.heap.size ≤ k ∧ k ≠ o2 ∧ k < top) => (by omega : _ ∧ _ ∧ _)), m1, hB, hF.sub _ rfl⟩)
      · have hp1 : part1 i (gt ks i) = [.var i] := by rw [part1, if_neg (by omega), if_pos hg]
        refine wp_rs fun K42 hK42 => ?_
        refine s_val hF (x_move rfl) (by decide) fun a hF => ?_
        refine s_val hF (x_eql (b := false) (decide_eq_false (by omega)) rfl rfl) (by decide) fun a hF => ?_
        refine s_val hF (x_assign rfl) (by decide) fun a hF => ?_
        refine s_end (hK42 _ _ ?_)
        refine wp_if hF rfl ?_
        refine wp_rs fun K43 hK43 => ?_
        refine s_val hF (x_move rfl) (by decide) fun a hF => ?_
        refine s_val hF (x_eql (b := true) (decide_eq_true (by omega)) rfl rfl) (by decide) fun a hF => ?_
        refine s_val hF (x_assign rfl) (by decide) fun a hF => ?_
        refine s_end (hK43 _ _ ?_)
        refine wp_if hF rfl ?_
        refine wp_region_lit ?_
        refine s_val hF (x_move rfl) (by decide) fun a hF => ?_
        refine s_val hF (x_move rfl) (by decide) fun a hF => ?_
        refine s_callB [_] hF (enters_of Try.func37 (by kernel_rfl) rfl) rfl (by decide) (var37 (i : Int) w) fun w44 a B45 hF => ?_
        have sB45 := B45.size
        have hB := hB.trans (B45.mono hB.size)
        have m1 := m1.old B45
        have hO := own_below hO B45
        have hP := hP.below B45
        refine s_litG [lv (2, (i : Int), .slice none 0 0)] el22 hF (by decide) rfl (by simp [Value.cells, lc]) rfl (by decide) (by decide) fun w46 bl a ebl ml B47 zbl hF => ?_
        have sB47 := B47.size
        have hB := hB.trans (B47.mono hB.size)
        have m1 := m1.old B47
        have hO := own_below hO B47
        have hP := hP.below B47
        have ml : Blk w46 bl 24 (lc (2, (i : Int), .slice none 0 0)) := by simpa [Value.cells] using ml
        refine s_app1 (o := o2) el22 hF (by decide) rfl rfl hO ml rfl (one3 rfl) hat (by omega) (by omega) (by decide) (by omega) fun v3 w48 a o3 hOn hOatn how hsrc k49 hkeep hF => ?_
        have sk49 := k49.size
        have hB := k49.under hB (by omega)
        have m1 : Blk w48 b1 _ _ := (hkeep _ m1.lt hne).trans m1
        have hP := hP.k2 k49 (fun k (hk : w0.heap.size ≤ k ∧ k ≠ o2 ∧ k < top) => by omega)
        have ml := ml.k2 k49 (by omega)
        have hO := hOn
        have hO_at := hOatn
        have hneg : v3.ownBlock ≠ some b1 := fun h => by rcases hsrc b1 h with h | h; exact hne h; omega
        refine s_val hF (x_assign rfl) (by decide) fun a hF => ?_
        refine s_end (hK38 _ _ ?_)
        refine wp_region_lit ?_
        refine s_val hF (x_addn (i + 1) (by omega) (by omega) rfl rfl) (by decide) fun a hF => ?_
        refine s_val hF (x_move rfl) (by decide) fun a hF => ?_
        refine s_end (hK' _ _ (by omega) ⟨v3, o3, zs ++ [(2, (i : Int), .slice none 0 0)], by rw [fm3_app]; simpa using hO, hO_at, hneg, by omega, by rw [pts, hp1]; exact (hP.mono (fun k (hk : w0.heap.size ≤ k ∧ k ≠ o2 ∧ k < top) => (by omega : _ ∧ _ ∧ _))).snoc (⟨rfl, rfl, Rd.nil _ _⟩), m1, hB, hF.sub _ rfl⟩)
      · have hp1 : part1 i (gt ks i) = [.succ (gt ks i).toNat (.var i)] := by rw [part1, if_neg (by omega), if_neg (by omega)]
        refine wp_rs fun K44 hK44 => ?_
        refine s_val hF (x_move rfl) (by decide) fun a hF => ?_
        refine s_val hF (x_eql (b := false) (decide_eq_false (by omega)) rfl rfl) (by decide) fun a hF => ?_
        refine s_val hF (x_assign rfl) (by decide) fun a hF => ?_
        refine s_end (hK44 _ _ ?_)
        refine wp_if hF rfl ?_
        refine wp_rs fun K45 hK45 => ?_
        refine s_val hF (x_move rfl) (by decide) fun a hF => ?_
        refine s_val hF (x_eql (b := false) (decide_eq_false (by omega)) rfl rfl) (by decide) fun a hF => ?_
        refine s_val hF (x_assign rfl) (by decide) fun a hF => ?_
        refine s_end (hK45 _ _ ?_)
        refine wp_if hF rfl ?_
        refine wp_region_lit ?_
        refine s_val hF (x_move rfl) (by decide) fun a hF => ?_
        refine s_val hF (x_move (v := .int .i64 ((gt ks i).toNat : Int)) (by rw [show ((gt ks i).toNat : Int) = gt ks i by omega]; rfl)) (by decide) fun a hF => ?_
        refine s_val hF (x_move rfl) (by decide) fun a hF => ?_
        refine s_callB [_] hF (enters_of Try.func37 (by kernel_rfl) rfl) rfl (by decide) (var37 (i : Int) w) fun w50 a B51 hF => ?_
        have sB51 := B51.size
        have hB := hB.trans (B51.mono hB.size)
        have m1 := m1.old B51
        have hO := own_below hO B51
        have hP := hP.below B51
        refine s_callR (R := fun v w' => ∃ z, v = lv z ∧ RSn w' (fun k => False ∨ w50.heap.size ≤ k) (.succ (gt ks i).toNat (.var i)) z) [_, _] hF (enters_of Try.func55 (by kernel_rfl) rfl) rfl (by decide) (succ55n (fun _ => False) (gt ks i).toNat (.var i) (2, (i : Int), .slice none 0 0) w50 ⟨rfl, rfl, Rd.nil _ _⟩) ?_
        rintro _ w52 a ⟨z, rfl, hz0⟩ B53 hF
        have sB53 := B53.size
        have hB := hB.trans (B53.mono hB.size)
        have m1 := m1.old B53
        have hO := own_below hO B53
        have hP := hP.below B53
        have hz := (hz0.valid).mono (B := fun k => w50.heap.size ≤ k ∧ k < w52.heap.size) (fun k h => ⟨h.1.resolve_left (fun x => x), h.2⟩)
        clear hz0
        have h1z := hz.rs.one1
        refine s_litG [lv z] el22 hF (by decide) rfl (by simp [Value.cells, lc]) rfl (by decide) (by decide) fun w54 bl a ebl ml B55 zbl hF => ?_
        have sB55 := B55.size
        have hB := hB.trans (B55.mono hB.size)
        have m1 := m1.old B55
        have hO := own_below hO B55
        have hP := hP.below B55
        have hz := hz.below B55
        have ml : Blk w54 bl 24 (lc z) := by simpa [Value.cells] using ml
        refine s_app1 (o := o2) el22 hF (by decide) rfl rfl hO ml rfl (one_lc h1z) hat (by omega) (by omega) (by decide) (by omega) fun v3 w56 a o3 hOn hOatn how hsrc k57 hkeep hF => ?_
        have sk57 := k57.size
        have hB := k57.under hB (by omega)
        have m1 : Blk w56 b1 _ _ := (hkeep _ m1.lt hne).trans m1
        have hP := hP.k2 k57 (fun k (hk : w0.heap.size ≤ k ∧ k ≠ o2 ∧ k < top) => by omega)
        have hz := hz.k2 k57 (fun k (hk : w50.heap.size ≤ k ∧ k < w52.heap.size) => by omega)
        have ml := ml.k2 k57 (by omega)
        have hO := hOn
        have hO_at := hOatn
        have hneg : v3.ownBlock ≠ some b1 := fun h => by rcases hsrc b1 h with h | h; exact hne h; omega
        refine s_val hF (x_assign rfl) (by decide) fun a hF => ?_
        refine s_end (hK38 _ _ ?_)
        refine wp_region_lit ?_
        refine s_val hF (x_addn (i + 1) (by omega) (by omega) rfl rfl) (by decide) fun a hF => ?_
        refine s_val hF (x_move rfl) (by decide) fun a hF => ?_
        refine s_end (hK' _ _ (by omega) ⟨v3, o3, zs ++ [z], by rw [fm3_app]; simpa using hO, hO_at, hneg, by omega, by rw [pts, hp1]; exact (hP.mono (fun k (hk : w0.heap.size ≤ k ∧ k ≠ o2 ∧ k < top) => (by omega : _ ∧ _ ∧ _))).snoc (hz.mono (fun k (hk : w50.heap.size ≤ k ∧ k < w52.heap.size) => (by omega : _ ∧ _ ∧ _))), m1, hB, hF.sub _ rfl⟩)
    · obtain rfl : i = ks.length := by omega
      refine wp_exit (hK34 _ _ ?_)
      refine wp_rs fun K46 hK46 => ?_
      refine s_val hF (x_move rfl) (by decide) fun a hF => ?_
      refine s_val hF (x_assign rfl) (by decide) fun a hF => ?_
      refine s_end (hK46 _ _ ?_)
      refine wp_ret (res_slot hF rfl rfl ⟨_, rfl, ⟨zs, Rd.own hO, hP.mono (fun k (hk : w0.heap.size ≤ k ∧ k ≠ o2 ∧ k < top) => (by omega : _ ≤ _))⟩, hB⟩)
end Go.Proofs.Ytnnkggfhhkhnmaa
