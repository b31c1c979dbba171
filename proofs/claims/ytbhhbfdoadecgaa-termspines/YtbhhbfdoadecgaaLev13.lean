/- parts, level, Reduce; the reference's Level. -/
import Derived.Test.YtbhhbfdoadecgaaLev8
import Derived.Test.YtbhhbfdoadecgaaTerm3
namespace Go.Proofs.Ytbhhbfdoadecgaa
open Go.RowKit Go.Shelf
set_option linter.unusedVariables false
set_option linter.unusedSimpArgs false

set_option maxRecDepth 100000 in
set_option maxHeartbeats 1600000 in
theorem join52n (A : Nat → Prop) (s t : SL) (x y : C3) (w0 : World) (hx : RSn w0 A s x) (hy : RSn w0 A t y) : Calls Try.prog 141 #[lv x, lv y] w0 fun e w' => ∃ v, e = .returned v ∧ (∃ z, v = lv z ∧ RSn w' (fun k => A k ∨ w0.heap.size ≤ k) (.mx s t) z) ∧ Below w0.heap.size w0 w' := by
 have hB := Below.refl w0.heap.size w0
 have sB := hB.size
 refine calls_fs 9 [(0, lv x), (1, lv y)] Try.func141 rfl rfl rfl rfl rfl fun a hF => ?_
 refine wp_rs fun K1 hK1 => ?_
 refine s_box (lc x) hF (by decide) rfl rfl fun w2 b2 a eb2 m2 B3 zb2 hF => ?_
 have sB3 := B3.size
 have hB := bt hB B3
 refine s_box (lc y) hF (by decide) rfl rfl fun w4 b3 a eb3 m3 B5 zb3 hF => ?_
 have sB5 := B5.size
 have hB := bt hB B5
 have m2 := m2.old B5
 refine s_alloc hF (by decide) zero24 fun w6 b4 a eb4 m4 B7 zb4 hF => ?_
 have sB7 := B7.size
 have hB := bt hB B7
 have m2 := m2.old B7
 have m3 := m3.old B7
 refine s_end (hK1 _ _ ?_)
 refine wp_rs fun K2 hK2 => ?_
 refine hF.v (x_ldW wide24 m2 rfl rfl) fun a hF => ?_
 refine hF.v (x_ldW wide24 m3 rfl rfl) fun a hF => ?_
 refine s_litG [lv x, lv y] el22 hF (by decide) rfl (by simp [Value.cells, lc]) rfl (by decide) (by decide) fun w8 bl a ebl ml B9 zbl hF => ?_
 have sB9 := B9.size
 have hB := bt hB B9
 have m4 := m4.old B9
 refine hF.v (x_build (vs := [(0, _), (2, _)]) rfl (b24_02 _ _ _ _ _)) fun a hF => ?_
 refine s_putW hF rfl rfl (size_wide wide24) m4 rfl (one3 rfl) fun w10 m4 o11 => ?_
 have so11 := o11.size
 have hB := hB.trans (o11.below (by omega))
 have ml := ml.only o11 (by omega)
 refine s_end (hK2 _ _ ?_)
 refine wp_ret (res_cell hF rfl rfl m4 wide24 ⟨_, rfl, ⟨(4, 0, .slice (some ⟨bl, 0, none⟩) 2 2), rfl, rfl, x, y, Rd.blk (k := 3) (by simpa [Value.cells] using ml) (by simp [lc]), fun j h => .inr (by cases h; show _ ≤ bl; omega), (hx.below hB).mono fun _ h => .inl h, (hy.below hB).mono fun _ h => .inl h⟩, hB⟩)

set_option maxRecDepth 100000 in
set_option maxHeartbeats 1600000 in
theorem succ55n (A : Nat → Prop) (m : Nat) (s : SL) (x : C3) (w0 : World) (hx : RSn w0 A s x) : Calls Try.prog 156 #[.int .i64 (m : Int), lv x] w0 fun e w' => ∃ v, e = .returned v ∧ (∃ z, v = lv z ∧ RSn w' (fun k => A k ∨ w0.heap.size ≤ k) (.succ m s) z) ∧ Below w0.heap.size w0 w' := by
 have hB := Below.refl w0.heap.size w0
 have sB := hB.size
 refine calls_fs 9 [(0, .int .i64 (m : Int)), (1, lv x)] Try.func156 rfl rfl rfl rfl rfl fun a hF => ?_
 refine wp_rs fun K1 hK1 => ?_
 refine s_box (lc x) hF (by decide) rfl rfl fun w2 b3 a eb3 m3 B3 zb3 hF => ?_
 have sB3 := B3.size
 have hB := bt hB B3
 refine s_alloc hF (by decide) zero24 fun w4 b4 a eb4 m4 B5 zb4 hF => ?_
 have sB5 := B5.size
 have hB := bt hB B5
 have m3 := m3.old B5
 refine s_end (hK1 _ _ ?_)
 refine wp_rs fun K2 hK2 => ?_
 refine hF.v (x_move rfl) fun a hF => ?_
 refine hF.v (x_ldW wide24 m3 rfl rfl) fun a hF => ?_
 refine s_litG [lv x] el22 hF (by decide) rfl (by simp [Value.cells, lc]) rfl (by decide) (by decide) fun w6 bl a ebl ml B7 zbl hF => ?_
 have sB7 := B7.size
 have hB := bt hB B7
 have m4 := m4.old B7
 refine hF.v (x_build (vs := [(0, _), (1, _), (2, _)]) rfl (b24_012 _ _ _ _ _ _)) fun a hF => ?_
 refine s_putW hF rfl rfl (size_wide wide24) m4 rfl (one3 rfl) fun w8 m4 o9 => ?_
 have so9 := o9.size
 have hB := hB.trans (o9.below (by omega))
 have ml := ml.only o9 (by omega)
 refine s_end (hK2 _ _ ?_)
 refine wp_ret (res_cell hF rfl rfl m4 wide24 ⟨_, rfl, ⟨(3, (m : Int), .slice (some ⟨bl, 0, none⟩) 1 1), rfl, rfl, rfl, x, Rd.blk (k := 3) (by simpa [Value.cells] using ml) (by simp [lc]), fun j h => .inr (by cases h; show _ ≤ bl; omega), (hx.below hB).mono fun _ h => .inl h⟩, hB⟩)

set_option maxRecDepth 100000 in
set_option maxHeartbeats 1600000 in
theorem parts60 (c : Int) (ks : List Int) (v : Value) (w0 : World) (hc : 0 ≤ c) (hl : ks.length ≤ 1001) (hLo : Lo ks) (hV : Rd w0 v 1 ks.length (ints ks)) : Calls Try.prog 140 #[.agg [.int .i64 c, v].toArray] w0 fun e w' => ∃ u, e = .returned u ∧ (∃ zs, Rd w' u 3 zs.length (zs.flatMap lc) ∧ PL w' (fun k => w0.heap.size ≤ k) zs (pts c ks ks.length)) ∧ Below w0.heap.size w0 w' := by
 obtain ⟨av, cv, rfl, _⟩ := hV.form
 have hB := Below.refl w0.heap.size w0
 have sB := hB.size
 refine calls_fs 49 [(0, .agg [.int .i64 c, .slice av ks.length cv].toArray)] Try.func140 rfl rfl rfl rfl rfl fun a hF => ?_
 refine wp_rs fun K1 hK1 => ?_
 refine s_box ([.int .i64 c, .slice av ks.length cv]) hF (by decide) rfl rfl fun w2 b1 a eb1 m1 B3 zb1 hF => ?_
 have sB3 := B3.size
 have hB := bt hB B3
 refine hF.v (x_assign rfl) fun a hF => ?_
 refine s_end (hK1 _ _ ?_)
 refine wp_rs fun K2 hK2 => ?_
 refine hF.v (x_assign rfl) fun a hF => ?_
 refine s_end (hK2 _ _ ?_)
 refine wp_seq_k fun K3 hK3 => ?_
 rcases (show c ≠ 0 ∨ (c = 0 ∧ ks.length = 0) ∨ (c = 0 ∧ ks.length ≠ 0) by omega) with hq | hq | hq
 ·
  have hp0 : pts c ks 0 = [.num c.toNat] := by rw [pts, if_pos (.inl hq)]
  refine wp_rs fun K5 hK5 => ?_
  refine hF.v (x_fa0 fa59_0 rfl) fun a hF => ?_
  refine hF.v (x_load rfl (m_load flat3 (m1.cell (j := 0) rfl))) fun a hF => ?_
  refine hF.v (neqT (by omega) rfl rfl) fun a hF => ?_
  refine hF.v (x_move rfl) fun a hF => ?_
  refine s_grdn 9 hF rfl rfl (by decide) fun a hF => ?_
  refine s_grdn 9 hF rfl rfl (by decide) fun a hF => ?_
  refine s_grdn 9 hF rfl rfl (by decide) fun a hF => ?_
  refine s_grdn 9 hF rfl rfl (by decide) fun a hF => ?_
  refine hF.v (x_pick (b := true) rfl rfl) fun a hF => ?_
  refine s_end (hK5 _ _ ?_)
  refine wp_if hF rfl ?_
  refine wp_region_lit ?_
  refine hF.v (x_move rfl) fun a hF => ?_
  refine hF.v (x_fa0 fa59_0 rfl) fun a hF => ?_
  refine hF.v (x_load rfl (m_load flat3 (m1.cell (j := 0) rfl))) fun a hF => ?_
  refine s_callB [_] hF E154 rfl (by decide) (num36 c w2) fun w4 a B5 hF => ?_
  have sB5 := B5.size
  have hB := bt hB B5
  have m1 := m1.old B5
  refine s_litG [lv (1, c, .slice none 0 0)] el22 hF (by decide) rfl (by simp [Value.cells, lc]) rfl (by decide) (by decide) fun w6 bl a ebl ml B7 zbl hF => ?_
  have sB7 := B7.size
  have hB := bt hB B7
  have m1 := m1.old B7
  have ml : Blk w6 bl 24 (lc (1, c, .slice none 0 0)) := by simpa [Value.cells] using ml
  have hO : w6.ownsRow w0.heap.size 24 3 (.slice none 0 0) 0 [] := World.ownsRow_nil _ _ _ _
  have hat : ∀ j, (Value.slice none 0 0).ownBlock = some j → j = b1 := fun j h => by cases h
  have hne : (Value.slice none 0 0).ownBlock ≠ some b1 := fun h => by cases h
  have hm1 := m1.lt
  refine s_app1 (o := b1) el22 hF (by decide) rfl rfl hO ml rfl (one3 rfl) hat (by omega) (by omega) (by decide) (by omega) fun v3 w8 a o3 hOn hOatn how hsrc k9 hkeep hF => ?_
  have sk9 := k9.size
  have hB := k9.under hB (by omega)
  have m1 : Blk w8 b1 _ _ := (hkeep _ m1.lt hne).trans m1
  have hO := hOn
  have hO_at := hOatn
  have hneg : v3.ownBlock ≠ some b1 := fun h => by rcases hsrc b1 h with h | h; exact hne h; omega
  refine hF.v (x_assign rfl) fun a hF => ?_
  refine s_end (hK3 _ _ ?_)
  refine wp_seq_k fun K6 hK6 => ?_
  refine wp_rs fun K7 hK7 => ?_
  refine hF.v (x_fa0 fa59_1 rfl) fun a hF => ?_
  refine hF.v (x_load rfl (m_load flat29 (m1.cell (j := 1) rfl))) fun a hF => ?_
  refine hF.v (x_len Try.underlying92 rfl) fun a hF => ?_
  refine hF.v (x_move rfl) fun a hF => ?_
  refine s_end (hK7 _ _ ?_)
  refine wp_block ?_
  have hJ : ∃ v' o' zs, w8.ownsRow w0.heap.size 24 3 v' zs.length (zs.flatMap lc) ∧ (∀ j, v'.ownBlock = some j → j = o') ∧ v'.ownBlock ≠ some b1 ∧ (w0.heap.size ≤ o' ∧ o' < w8.heap.size) ∧ PL w8 (fun k => w0.heap.size ≤ k ∧ k ≠ o' ∧ k < w8.heap.size) zs (pts c ks 0) ∧ v3 = v' := ⟨v3, o3, [(1, c, .slice none 0 0)], by simpa using hO, hO_at, hneg, by omega, by rw [hp0]; exact PL.snoc PL.nil ⟨rfl, by show c = _; omega, Rd.nil _ _⟩, rfl⟩
  obtain ⟨vj, oj, zj, hj1, hj2, hj3, hj4, hj5, hj6⟩ := hJ
  rw [hj6] at hF
  refine wp_up ks.length (fun i a w => ∃ v' o' zs, w.ownsRow w0.heap.size 24 3 v' zs.length (zs.flatMap lc) ∧ (∀ j, v'.ownBlock = some j → j = o') ∧ v'.ownBlock ≠ some b1 ∧ (w0.heap.size ≤ o' ∧ o' < w.heap.size) ∧ PL w (fun k => w0.heap.size ≤ k ∧ k ≠ o' ∧ k < w.heap.size) zs (pts c ks i) ∧ Blk w b1 126 [.int .i64 c, .slice av ks.length cv] ∧ Below w0.heap.size w0 w ∧ Fs 49 a [(24, .int .i64 (i : Int)), (23, .int .i64 (ks.length : Int)), (22, .slice av ks.length cv), (3, v')]) ⟨vj, oj, zj, hj1, hj2, hj3, hj4, hj5, m1, hB, hF.sub _ rfl⟩ ?_
  repeat clear hF
  clear hB m1
  rintro i a w hi ⟨vv, o2, zs, hO, hat, hne, hlo, hP, m1, hB, hF⟩ K' hK'
  have sB := hB.size
  have hm1 := m1.lt
  obtain ⟨top, htop⟩ : ∃ h, h = w.heap.size := ⟨_, rfl⟩
  rw [← htop] at hP
  have hPl := hP.1
  have hple := pts_le c ks i
  refine wp_rs fun K8 hK8 => ?_
  refine hF.v (x_lss rfl rfl rfl) fun a hF => ?_
  refine s_end (hK8 _ _ ?_)
  refine wp_seq_k fun K9 hK9 => ?_
  refine wp_iff hF rfl (fun hc25 => ?_) (fun hc25 => ?_)
  ·
   have hgi := hLo.gt i
   obtain ⟨b6, off6, c6, hve, hrow⟩ := rd_rowI hV (i := i) (by omega)
   cases hve
   refine wp_skip (hK9 _ _ ?_)
   refine wp_seq_k fun K10 hK10 => ?_
   refine wp_block ?_
   refine wp_rs fun K11 hK11 => ?_
   refine hF.v (x_move rfl) fun a hF => ?_
   refine hF.v (x_ixa rfl rfl (m_ixs i Try.underlying92 el29.size rfl (by omega))) fun a hF => ?_
   refine hF.v (x_load rfl (m_load flat3 (hrow _ hB))) fun a hF => ?_
   refine hF.v (x_assign rfl) fun a hF => ?_
   refine hF.v (x_assign rfl) fun a hF => ?_
   refine s_end (hK11 _ _ ?_)
   refine wp_block ?_
   rcases (show gt ks i = -1 ∨ gt ks i = 0 ∨ 0 < gt ks i by omega) with hg | hg | hg
   ·
    have hp1 : part1 i (gt ks i) = [] := by rw [part1, if_pos (by omega)]
    refine wp_rs fun K13 hK13 => ?_
    refine hF.v (x_move rfl) fun a hF => ?_
    refine hF.v (eqlT (by omega) rfl rfl) fun a hF => ?_
    refine hF.v (x_assign rfl) fun a hF => ?_
    refine s_end (hK13 _ _ ?_)
    refine wp_if hF rfl ?_
    refine wp_skip (hK10 _ _ ?_)
    refine wp_region_lit ?_
    refine hF.v (x_addn (i + 1) (by omega) (by omega) rfl rfl) fun a hF => ?_
    refine hF.v (x_move rfl) fun a hF => ?_
    refine s_end (hK' _ _ (by omega) ⟨vv, o2, zs, hO, hat, hne, by omega, by rw [pts, hp1, List.append_nil]; exact hP.mono (fun k (hk : w0.heap.size ≤ k ∧ k ≠ o2 ∧ k < top) => (by omega : _ ∧ _ ∧ _)), m1, hB, hF.sub _ rfl⟩)
   ·
    have hp1 : part1 i (gt ks i) = [.var i] := by rw [part1, if_neg (by omega), if_pos hg]
    refine wp_rs fun K14 hK14 => ?_
    refine hF.v (x_move rfl) fun a hF => ?_
    refine hF.v (eqlF (by omega) rfl rfl) fun a hF => ?_
    refine hF.v (x_assign rfl) fun a hF => ?_
    refine s_end (hK14 _ _ ?_)
    refine wp_if hF rfl ?_
    refine wp_rs fun K15 hK15 => ?_
    refine hF.v (x_move rfl) fun a hF => ?_
    refine hF.v (eqlT (by omega) rfl rfl) fun a hF => ?_
    refine hF.v (x_assign rfl) fun a hF => ?_
    refine s_end (hK15 _ _ ?_)
    refine wp_if hF rfl ?_
    refine wp_region_lit ?_
    refine hF.v (x_move rfl) fun a hF => ?_
    refine hF.v (x_move rfl) fun a hF => ?_
    refine s_callB [_] hF E155 rfl (by decide) (var37 (i : Int) w) fun w10 a B11 hF => ?_
    have sB11 := B11.size
    have hB := bt hB B11
    have m1 := m1.old B11
    have hO := own_below hO B11
    have hP := hP.below B11
    refine s_litG [lv (2, (i : Int), .slice none 0 0)] el22 hF (by decide) rfl (by simp [Value.cells, lc]) rfl (by decide) (by decide) fun w12 bl a ebl ml B13 zbl hF => ?_
    have sB13 := B13.size
    have hB := bt hB B13
    have m1 := m1.old B13
    have hO := own_below hO B13
    have hP := hP.below B13
    have ml : Blk w12 bl 24 (lc (2, (i : Int), .slice none 0 0)) := by simpa [Value.cells] using ml
    refine s_app1 (o := o2) el22 hF (by decide) rfl rfl hO ml rfl (one3 rfl) hat (by omega) (by omega) (by decide) (by omega) fun v3 w14 a o3 hOn hOatn how hsrc k15 hkeep hF => ?_
    have sk15 := k15.size
    have hB := k15.under hB (by omega)
    have m1 : Blk w14 b1 _ _ := (hkeep _ m1.lt hne).trans m1
    have hP := hP.k2 k15 (fun k (hk : w0.heap.size ≤ k ∧ k ≠ o2 ∧ k < top) => by omega)
    have hO := hOn
    have hO_at := hOatn
    have hneg : v3.ownBlock ≠ some b1 := fun h => by rcases hsrc b1 h with h | h; exact hne h; omega
    refine hF.v (x_assign rfl) fun a hF => ?_
    refine s_end (hK10 _ _ ?_)
    refine wp_region_lit ?_
    refine hF.v (x_addn (i + 1) (by omega) (by omega) rfl rfl) fun a hF => ?_
    refine hF.v (x_move rfl) fun a hF => ?_
    refine s_end (hK' _ _ (by omega) ⟨v3, o3, zs ++ [(2, (i : Int), .slice none 0 0)], by rw [fm3_app]; simpa using hO, hO_at, hneg, by omega, by rw [pts, hp1]; exact (hP.mono (fun k (hk : w0.heap.size ≤ k ∧ k ≠ o2 ∧ k < top) => (by omega : _ ∧ _ ∧ _))).snoc (⟨rfl, rfl, Rd.nil _ _⟩), m1, hB, hF.sub _ rfl⟩)
   ·
    have hp1 : part1 i (gt ks i) = [.succ (gt ks i).toNat (.var i)] := by rw [part1, if_neg (by omega), if_neg (by omega)]
    refine wp_rs fun K16 hK16 => ?_
    refine hF.v (x_move rfl) fun a hF => ?_
    refine hF.v (eqlF (by omega) rfl rfl) fun a hF => ?_
    refine hF.v (x_assign rfl) fun a hF => ?_
    refine s_end (hK16 _ _ ?_)
    refine wp_if hF rfl ?_
    refine wp_rs fun K17 hK17 => ?_
    refine hF.v (x_move rfl) fun a hF => ?_
    refine hF.v (eqlF (by omega) rfl rfl) fun a hF => ?_
    refine hF.v (x_assign rfl) fun a hF => ?_
    refine s_end (hK17 _ _ ?_)
    refine wp_if hF rfl ?_
    refine wp_region_lit ?_
    refine hF.v (x_move rfl) fun a hF => ?_
    refine hF.v (x_move (v := .int .i64 ((gt ks i).toNat : Int)) (by rw [show ((gt ks i).toNat : Int) = gt ks i by omega]; rfl)) fun a hF => ?_
    refine hF.v (x_move rfl) fun a hF => ?_
    refine s_callB [_] hF E155 rfl (by decide) (var37 (i : Int) w) fun w16 a B17 hF => ?_
    have sB17 := B17.size
    have hB := bt hB B17
    have m1 := m1.old B17
    have hO := own_below hO B17
    have hP := hP.below B17
    refine s_callR (R := fun v w' => ∃ z, v = lv z ∧ RSn w' (fun k => False ∨ w16.heap.size ≤ k) (.succ (gt ks i).toNat (.var i)) z) [_, _] hF E156 rfl (by decide) (succ55n (fun _ => False) (gt ks i).toNat (.var i) (2, (i : Int), .slice none 0 0) w16 ⟨rfl, rfl, Rd.nil _ _⟩) ?_
    rintro _ w18 a ⟨z, rfl, hz0⟩ B19 hF
    have sB19 := B19.size
    have hB := bt hB B19
    have m1 := m1.old B19
    have hO := own_below hO B19
    have hP := hP.below B19
    have hz := (hz0.valid).mono (B := fun k => w16.heap.size ≤ k ∧ k < w18.heap.size) (fun k h => ⟨h.1.resolve_left (fun x => x), h.2⟩)
    clear hz0
    have h1z := hz.rs.one1
    refine s_litG [lv z] el22 hF (by decide) rfl (by simp [Value.cells, lc]) rfl (by decide) (by decide) fun w20 bl a ebl ml B21 zbl hF => ?_
    have sB21 := B21.size
    have hB := bt hB B21
    have m1 := m1.old B21
    have hO := own_below hO B21
    have hP := hP.below B21
    have hz := hz.below B21
    have ml : Blk w20 bl 24 (lc z) := by simpa [Value.cells] using ml
    refine s_app1 (o := o2) el22 hF (by decide) rfl rfl hO ml rfl (one_lc h1z) hat (by omega) (by omega) (by decide) (by omega) fun v3 w22 a o3 hOn hOatn how hsrc k23 hkeep hF => ?_
    have sk23 := k23.size
    have hB := k23.under hB (by omega)
    have m1 : Blk w22 b1 _ _ := (hkeep _ m1.lt hne).trans m1
    have hP := hP.k2 k23 (fun k (hk : w0.heap.size ≤ k ∧ k ≠ o2 ∧ k < top) => by omega)
    have hz := hz.k2 k23 (fun k (hk : w16.heap.size ≤ k ∧ k < w18.heap.size) => by omega)
    have hO := hOn
    have hO_at := hOatn
    have hneg : v3.ownBlock ≠ some b1 := fun h => by rcases hsrc b1 h with h | h; exact hne h; omega
    refine hF.v (x_assign rfl) fun a hF => ?_
    refine s_end (hK10 _ _ ?_)
    refine wp_region_lit ?_
    refine hF.v (x_addn (i + 1) (by omega) (by omega) rfl rfl) fun a hF => ?_
    refine hF.v (x_move rfl) fun a hF => ?_
    refine s_end (hK' _ _ (by omega) ⟨v3, o3, zs ++ [z], by rw [fm3_app]; simpa using hO, hO_at, hneg, by omega, by rw [pts, hp1]; exact (hP.mono (fun k (hk : w0.heap.size ≤ k ∧ k ≠ o2 ∧ k < top) => (by omega : _ ∧ _ ∧ _))).snoc (hz.mono (fun k (hk : w16.heap.size ≤ k ∧ k < w18.heap.size) => (by omega : _ ∧ _ ∧ _))), m1, hB, hF.sub _ rfl⟩)
  ·
   obtain rfl : i = ks.length := by omega
   refine wp_exit (hK6 _ _ ?_)
   refine wp_rs fun K18 hK18 => ?_
   refine hF.v (x_move rfl) fun a hF => ?_
   refine hF.v (x_assign rfl) fun a hF => ?_
   refine s_end (hK18 _ _ ?_)
   refine wp_ret (res_slot hF rfl rfl ⟨_, rfl, ⟨zs, Rd.own hO, hP.mono (fun k (hk : w0.heap.size ≤ k ∧ k ≠ o2 ∧ k < top) => (by omega : _ ≤ _))⟩, hB⟩)
 ·
  have hp0 : pts c ks 0 = [.num c.toNat] := by rw [pts, if_pos (.inr (List.eq_nil_of_length_eq_zero hq.2))]
  refine wp_rs fun K19 hK19 => ?_
  refine hF.v (x_fa0 fa59_0 rfl) fun a hF => ?_
  refine hF.v (x_load rfl (m_load flat3 (m1.cell (j := 0) rfl))) fun a hF => ?_
  refine hF.v (neqF (by omega) rfl rfl) fun a hF => ?_
  refine hF.v (x_move rfl) fun a hF => ?_
  refine s_grd 9 hF rfl rfl rfl ?_
  refine hF.v (x_fa0 fa59_1 rfl) fun a hF => ?_
  refine s_grd 9 hF rfl rfl rfl ?_
  refine hF.v (x_load rfl (m_load flat29 (m1.cell (j := 1) rfl))) fun a hF => ?_
  refine s_grd 9 hF rfl rfl rfl ?_
  refine hF.v (x_len Try.underlying92 rfl) fun a hF => ?_
  refine s_grd 9 hF rfl rfl rfl ?_
  refine hF.v (eqlT (by omega) rfl rfl) fun a hF => ?_
  refine hF.v (x_pick (b := false) rfl rfl) fun a hF => ?_
  refine s_end (hK19 _ _ ?_)
  refine wp_if hF rfl ?_
  refine wp_region_lit ?_
  refine hF.v (x_move rfl) fun a hF => ?_
  refine hF.v (x_fa0 fa59_0 rfl) fun a hF => ?_
  refine hF.v (x_load rfl (m_load flat3 (m1.cell (j := 0) rfl))) fun a hF => ?_
  refine s_callB [_] hF E154 rfl (by decide) (num36 c w2) fun w24 a B25 hF => ?_
  have sB25 := B25.size
  have hB := bt hB B25
  have m1 := m1.old B25
  refine s_litG [lv (1, c, .slice none 0 0)] el22 hF (by decide) rfl (by simp [Value.cells, lc]) rfl (by decide) (by decide) fun w26 bl a ebl ml B27 zbl hF => ?_
  have sB27 := B27.size
  have hB := bt hB B27
  have m1 := m1.old B27
  have ml : Blk w26 bl 24 (lc (1, c, .slice none 0 0)) := by simpa [Value.cells] using ml
  have hO : w26.ownsRow w0.heap.size 24 3 (.slice none 0 0) 0 [] := World.ownsRow_nil _ _ _ _
  have hat : ∀ j, (Value.slice none 0 0).ownBlock = some j → j = b1 := fun j h => by cases h
  have hne : (Value.slice none 0 0).ownBlock ≠ some b1 := fun h => by cases h
  have hm1 := m1.lt
  refine s_app1 (o := b1) el22 hF (by decide) rfl rfl hO ml rfl (one3 rfl) hat (by omega) (by omega) (by decide) (by omega) fun v3 w28 a o3 hOn hOatn how hsrc k29 hkeep hF => ?_
  have sk29 := k29.size
  have hB := k29.under hB (by omega)
  have m1 : Blk w28 b1 _ _ := (hkeep _ m1.lt hne).trans m1
  have hO := hOn
  have hO_at := hOatn
  have hneg : v3.ownBlock ≠ some b1 := fun h => by rcases hsrc b1 h with h | h; exact hne h; omega
  refine hF.v (x_assign rfl) fun a hF => ?_
  refine s_end (hK3 _ _ ?_)
  refine wp_seq_k fun K20 hK20 => ?_
  refine wp_rs fun K21 hK21 => ?_
  refine hF.v (x_fa0 fa59_1 rfl) fun a hF => ?_
  refine hF.v (x_load rfl (m_load flat29 (m1.cell (j := 1) rfl))) fun a hF => ?_
  refine hF.v (x_len Try.underlying92 rfl) fun a hF => ?_
  refine hF.v (x_move rfl) fun a hF => ?_
  refine s_end (hK21 _ _ ?_)
  refine wp_block ?_
  have hJ : ∃ v' o' zs, w28.ownsRow w0.heap.size 24 3 v' zs.length (zs.flatMap lc) ∧ (∀ j, v'.ownBlock = some j → j = o') ∧ v'.ownBlock ≠ some b1 ∧ (w0.heap.size ≤ o' ∧ o' < w28.heap.size) ∧ PL w28 (fun k => w0.heap.size ≤ k ∧ k ≠ o' ∧ k < w28.heap.size) zs (pts c ks 0) ∧ v3 = v' := ⟨v3, o3, [(1, c, .slice none 0 0)], by simpa using hO, hO_at, hneg, by omega, by rw [hp0]; exact PL.snoc PL.nil ⟨rfl, by show c = _; omega, Rd.nil _ _⟩, rfl⟩
  obtain ⟨vj, oj, zj, hj1, hj2, hj3, hj4, hj5, hj6⟩ := hJ
  rw [hj6] at hF
  refine wp_up ks.length (fun i a w => ∃ v' o' zs, w.ownsRow w0.heap.size 24 3 v' zs.length (zs.flatMap lc) ∧ (∀ j, v'.ownBlock = some j → j = o') ∧ v'.ownBlock ≠ some b1 ∧ (w0.heap.size ≤ o' ∧ o' < w.heap.size) ∧ PL w (fun k => w0.heap.size ≤ k ∧ k ≠ o' ∧ k < w.heap.size) zs (pts c ks i) ∧ Blk w b1 126 [.int .i64 c, .slice av ks.length cv] ∧ Below w0.heap.size w0 w ∧ Fs 49 a [(24, .int .i64 (i : Int)), (23, .int .i64 (ks.length : Int)), (22, .slice av ks.length cv), (3, v')]) ⟨vj, oj, zj, hj1, hj2, hj3, hj4, hj5, m1, hB, hF.sub _ rfl⟩ ?_
  repeat clear hF
  clear hB m1
  rintro i a w hi ⟨vv, o2, zs, hO, hat, hne, hlo, hP, m1, hB, hF⟩ K' hK'
  have sB := hB.size
  have hm1 := m1.lt
  obtain ⟨top, htop⟩ : ∃ h, h = w.heap.size := ⟨_, rfl⟩
  rw [← htop] at hP
  have hPl := hP.1
  have hple := pts_le c ks i
  refine wp_rs fun K22 hK22 => ?_
  refine hF.v (x_lss rfl rfl rfl) fun a hF => ?_
  refine s_end (hK22 _ _ ?_)
  refine wp_seq_k fun K23 hK23 => ?_
  refine wp_iff hF rfl (fun hc25 => ?_) (fun hc25 => ?_)
  ·
   have hgi := hLo.gt i
   obtain ⟨b6, off6, c6, hve, hrow⟩ := rd_rowI hV (i := i) (by omega)
   cases hve
   refine wp_skip (hK23 _ _ ?_)
   refine wp_seq_k fun K24 hK24 => ?_
   refine wp_block ?_
   refine wp_rs fun K25 hK25 => ?_
   refine hF.v (x_move rfl) fun a hF => ?_
   refine hF.v (x_ixa rfl rfl (m_ixs i Try.underlying92 el29.size rfl (by omega))) fun a hF => ?_
   refine hF.v (x_load rfl (m_load flat3 (hrow _ hB))) fun a hF => ?_
   refine hF.v (x_assign rfl) fun a hF => ?_
   refine hF.v (x_assign rfl) fun a hF => ?_
   refine s_end (hK25 _ _ ?_)
   refine wp_block ?_
   rcases (show gt ks i = -1 ∨ gt ks i = 0 ∨ 0 < gt ks i by omega) with hg | hg | hg
   ·
    have hp1 : part1 i (gt ks i) = [] := by rw [part1, if_pos (by omega)]
    refine wp_rs fun K27 hK27 => ?_
    refine hF.v (x_move rfl) fun a hF => ?_
    refine hF.v (eqlT (by omega) rfl rfl) fun a hF => ?_
    refine hF.v (x_assign rfl) fun a hF => ?_
    refine s_end (hK27 _ _ ?_)
    refine wp_if hF rfl ?_
    refine wp_skip (hK24 _ _ ?_)
    refine wp_region_lit ?_
    refine hF.v (x_addn (i + 1) (by omega) (by omega) rfl rfl) fun a hF => ?_
    refine hF.v (x_move rfl) fun a hF => ?_
    refine s_end (hK' _ _ (by omega) ⟨vv, o2, zs, hO, hat, hne, by omega, by rw [pts, hp1, List.append_nil]; exact hP.mono (fun k (hk : w0.heap.size ≤ k ∧ k ≠ o2 ∧ k < top) => (by omega : _ ∧ _ ∧ _)), m1, hB, hF.sub _ rfl⟩)
   ·
    have hp1 : part1 i (gt ks i) = [.var i] := by rw [part1, if_neg (by omega), if_pos hg]
    refine wp_rs fun K28 hK28 => ?_
    refine hF.v (x_move rfl) fun a hF => ?_
    refine hF.v (eqlF (by omega) rfl rfl) fun a hF => ?_
    refine hF.v (x_assign rfl) fun a hF => ?_
    refine s_end (hK28 _ _ ?_)
    refine wp_if hF rfl ?_
    refine wp_rs fun K29 hK29 => ?_
    refine hF.v (x_move rfl) fun a hF => ?_
    refine hF.v (eqlT (by omega) rfl rfl) fun a hF => ?_
    refine hF.v (x_assign rfl) fun a hF => ?_
    refine s_end (hK29 _ _ ?_)
    refine wp_if hF rfl ?_
    refine wp_region_lit ?_
    refine hF.v (x_move rfl) fun a hF => ?_
    refine hF.v (x_move rfl) fun a hF => ?_
    refine s_callB [_] hF E155 rfl (by decide) (var37 (i : Int) w) fun w30 a B31 hF => ?_
    have sB31 := B31.size
    have hB := bt hB B31
    have m1 := m1.old B31
    have hO := own_below hO B31
    have hP := hP.below B31
    refine s_litG [lv (2, (i : Int), .slice none 0 0)] el22 hF (by decide) rfl (by simp [Value.cells, lc]) rfl (by decide) (by decide) fun w32 bl a ebl ml B33 zbl hF => ?_
    have sB33 := B33.size
    have hB := bt hB B33
    have m1 := m1.old B33
    have hO := own_below hO B33
    have hP := hP.below B33
    have ml : Blk w32 bl 24 (lc (2, (i : Int), .slice none 0 0)) := by simpa [Value.cells] using ml
    refine s_app1 (o := o2) el22 hF (by decide) rfl rfl hO ml rfl (one3 rfl) hat (by omega) (by omega) (by decide) (by omega) fun v3 w34 a o3 hOn hOatn how hsrc k35 hkeep hF => ?_
    have sk35 := k35.size
    have hB := k35.under hB (by omega)
    have m1 : Blk w34 b1 _ _ := (hkeep _ m1.lt hne).trans m1
    have hP := hP.k2 k35 (fun k (hk : w0.heap.size ≤ k ∧ k ≠ o2 ∧ k < top) => by omega)
    have hO := hOn
    have hO_at := hOatn
    have hneg : v3.ownBlock ≠ some b1 := fun h => by rcases hsrc b1 h with h | h; exact hne h; omega
    refine hF.v (x_assign rfl) fun a hF => ?_
    refine s_end (hK24 _ _ ?_)
    refine wp_region_lit ?_
    refine hF.v (x_addn (i + 1) (by omega) (by omega) rfl rfl) fun a hF => ?_
    refine hF.v (x_move rfl) fun a hF => ?_
    refine s_end (hK' _ _ (by omega) ⟨v3, o3, zs ++ [(2, (i : Int), .slice none 0 0)], by rw [fm3_app]; simpa using hO, hO_at, hneg, by omega, by rw [pts, hp1]; exact (hP.mono (fun k (hk : w0.heap.size ≤ k ∧ k ≠ o2 ∧ k < top) => (by omega : _ ∧ _ ∧ _))).snoc (⟨rfl, rfl, Rd.nil _ _⟩), m1, hB, hF.sub _ rfl⟩)
   ·
    have hp1 : part1 i (gt ks i) = [.succ (gt ks i).toNat (.var i)] := by rw [part1, if_neg (by omega), if_neg (by omega)]
    refine wp_rs fun K30 hK30 => ?_
    refine hF.v (x_move rfl) fun a hF => ?_
    refine hF.v (eqlF (by omega) rfl rfl) fun a hF => ?_
    refine hF.v (x_assign rfl) fun a hF => ?_
    refine s_end (hK30 _ _ ?_)
    refine wp_if hF rfl ?_
    refine wp_rs fun K31 hK31 => ?_
    refine hF.v (x_move rfl) fun a hF => ?_
    refine hF.v (eqlF (by omega) rfl rfl) fun a hF => ?_
    refine hF.v (x_assign rfl) fun a hF => ?_
    refine s_end (hK31 _ _ ?_)
    refine wp_if hF rfl ?_
    refine wp_region_lit ?_
    refine hF.v (x_move rfl) fun a hF => ?_
    refine hF.v (x_move (v := .int .i64 ((gt ks i).toNat : Int)) (by rw [show ((gt ks i).toNat : Int) = gt ks i by omega]; rfl)) fun a hF => ?_
    refine hF.v (x_move rfl) fun a hF => ?_
    refine s_callB [_] hF E155 rfl (by decide) (var37 (i : Int) w) fun w36 a B37 hF => ?_
    have sB37 := B37.size
    have hB := bt hB B37
    have m1 := m1.old B37
    have hO := own_below hO B37
    have hP := hP.below B37
    refine s_callR (R := fun v w' => ∃ z, v = lv z ∧ RSn w' (fun k => False ∨ w36.heap.size ≤ k) (.succ (gt ks i).toNat (.var i)) z) [_, _] hF E156 rfl (by decide) (succ55n (fun _ => False) (gt ks i).toNat (.var i) (2, (i : Int), .slice none 0 0) w36 ⟨rfl, rfl, Rd.nil _ _⟩) ?_
    rintro _ w38 a ⟨z, rfl, hz0⟩ B39 hF
    have sB39 := B39.size
    have hB := bt hB B39
    have m1 := m1.old B39
    have hO := own_below hO B39
    have hP := hP.below B39
    have hz := (hz0.valid).mono (B := fun k => w36.heap.size ≤ k ∧ k < w38.heap.size) (fun k h => ⟨h.1.resolve_left (fun x => x), h.2⟩)
    clear hz0
    have h1z := hz.rs.one1
    refine s_litG [lv z] el22 hF (by decide) rfl (by simp [Value.cells, lc]) rfl (by decide) (by decide) fun w40 bl a ebl ml B41 zbl hF => ?_
    have sB41 := B41.size
    have hB := bt hB B41
    have m1 := m1.old B41
    have hO := own_below hO B41
    have hP := hP.below B41
    have hz := hz.below B41
    have ml : Blk w40 bl 24 (lc z) := by simpa [Value.cells] using ml
    refine s_app1 (o := o2) el22 hF (by decide) rfl rfl hO ml rfl (one_lc h1z) hat (by omega) (by omega) (by decide) (by omega) fun v3 w42 a o3 hOn hOatn how hsrc k43 hkeep hF => ?_
    have sk43 := k43.size
    have hB := k43.under hB (by omega)
    have m1 : Blk w42 b1 _ _ := (hkeep _ m1.lt hne).trans m1
    have hP := hP.k2 k43 (fun k (hk : w0.heap.size ≤ k ∧ k ≠ o2 ∧ k < top) => by omega)
    have hz := hz.k2 k43 (fun k (hk : w36.heap.size ≤ k ∧ k < w38.heap.size) => by omega)
    have hO := hOn
    have hO_at := hOatn
    have hneg : v3.ownBlock ≠ some b1 := fun h => by rcases hsrc b1 h with h | h; exact hne h; omega
    refine hF.v (x_assign rfl) fun a hF => ?_
    refine s_end (hK24 _ _ ?_)
    refine wp_region_lit ?_
    refine hF.v (x_addn (i + 1) (by omega) (by omega) rfl rfl) fun a hF => ?_
    refine hF.v (x_move rfl) fun a hF => ?_
    refine s_end (hK' _ _ (by omega) ⟨v3, o3, zs ++ [z], by rw [fm3_app]; simpa using hO, hO_at, hneg, by omega, by rw [pts, hp1]; exact (hP.mono (fun k (hk : w0.heap.size ≤ k ∧ k ≠ o2 ∧ k < top) => (by omega : _ ∧ _ ∧ _))).snoc (hz.mono (fun k (hk : w36.heap.size ≤ k ∧ k < w38.heap.size) => (by omega : _ ∧ _ ∧ _))), m1, hB, hF.sub _ rfl⟩)
  ·
   obtain rfl : i = ks.length := by omega
   refine wp_exit (hK20 _ _ ?_)
   refine wp_rs fun K32 hK32 => ?_
   refine hF.v (x_move rfl) fun a hF => ?_
   refine hF.v (x_assign rfl) fun a hF => ?_
   refine s_end (hK32 _ _ ?_)
   refine wp_ret (res_slot hF rfl rfl ⟨_, rfl, ⟨zs, Rd.own hO, hP.mono (fun k (hk : w0.heap.size ≤ k ∧ k ≠ o2 ∧ k < top) => (by omega : _ ≤ _))⟩, hB⟩)
 ·
  have hp0 : pts c ks 0 = [] := by rw [pts, if_neg]; rintro (h | h); exact h hq.1; exact hq.2 (by rw [h]; rfl)
  refine wp_rs fun K33 hK33 => ?_
  refine hF.v (x_fa0 fa59_0 rfl) fun a hF => ?_
  refine hF.v (x_load rfl (m_load flat3 (m1.cell (j := 0) rfl))) fun a hF => ?_
  refine hF.v (neqF (by omega) rfl rfl) fun a hF => ?_
  refine hF.v (x_move rfl) fun a hF => ?_
  refine s_grd 9 hF rfl rfl rfl ?_
  refine hF.v (x_fa0 fa59_1 rfl) fun a hF => ?_
  refine s_grd 9 hF rfl rfl rfl ?_
  refine hF.v (x_load rfl (m_load flat29 (m1.cell (j := 1) rfl))) fun a hF => ?_
  refine s_grd 9 hF rfl rfl rfl ?_
  refine hF.v (x_len Try.underlying92 rfl) fun a hF => ?_
  refine s_grd 9 hF rfl rfl rfl ?_
  refine hF.v (eqlF (by omega) rfl rfl) fun a hF => ?_
  refine hF.v (x_pick (b := false) rfl rfl) fun a hF => ?_
  refine s_end (hK33 _ _ ?_)
  refine wp_if hF rfl ?_
  refine wp_skip (hK3 _ _ ?_)
  refine wp_seq_k fun K34 hK34 => ?_
  refine wp_rs fun K35 hK35 => ?_
  refine hF.v (x_fa0 fa59_1 rfl) fun a hF => ?_
  refine hF.v (x_load rfl (m_load flat29 (m1.cell (j := 1) rfl))) fun a hF => ?_
  refine hF.v (x_len Try.underlying92 rfl) fun a hF => ?_
  refine hF.v (x_move rfl) fun a hF => ?_
  refine s_end (hK35 _ _ ?_)
  refine wp_block ?_
  have hJ : ∃ v' o' zs, w2.ownsRow w0.heap.size 24 3 v' zs.length (zs.flatMap lc) ∧ (∀ j, v'.ownBlock = some j → j = o') ∧ v'.ownBlock ≠ some b1 ∧ (w0.heap.size ≤ o' ∧ o' < w2.heap.size) ∧ PL w2 (fun k => w0.heap.size ≤ k ∧ k ≠ o' ∧ k < w2.heap.size) zs (pts c ks 0) ∧ Value.slice none 0 0 = v' := ⟨_, b1, [], World.ownsRow_nil _ _ _ _, (fun j h => by cases h), (fun h => by cases h), by have := m1.lt; omega, by rw [hp0]; exact PL.nil, rfl⟩
  obtain ⟨vj, oj, zj, hj1, hj2, hj3, hj4, hj5, hj6⟩ := hJ
  rw [hj6] at hF
  refine wp_up ks.length (fun i a w => ∃ v' o' zs, w.ownsRow w0.heap.size 24 3 v' zs.length (zs.flatMap lc) ∧ (∀ j, v'.ownBlock = some j → j = o') ∧ v'.ownBlock ≠ some b1 ∧ (w0.heap.size ≤ o' ∧ o' < w.heap.size) ∧ PL w (fun k => w0.heap.size ≤ k ∧ k ≠ o' ∧ k < w.heap.size) zs (pts c ks i) ∧ Blk w b1 126 [.int .i64 c, .slice av ks.length cv] ∧ Below w0.heap.size w0 w ∧ Fs 49 a [(24, .int .i64 (i : Int)), (23, .int .i64 (ks.length : Int)), (22, .slice av ks.length cv), (3, v')]) ⟨vj, oj, zj, hj1, hj2, hj3, hj4, hj5, m1, hB, hF.sub _ rfl⟩ ?_
  repeat clear hF
  clear hB m1
  rintro i a w hi ⟨vv, o2, zs, hO, hat, hne, hlo, hP, m1, hB, hF⟩ K' hK'
  have sB := hB.size
  have hm1 := m1.lt
  obtain ⟨top, htop⟩ : ∃ h, h = w.heap.size := ⟨_, rfl⟩
  rw [← htop] at hP
  have hPl := hP.1
  have hple := pts_le c ks i
  refine wp_rs fun K36 hK36 => ?_
  refine hF.v (x_lss rfl rfl rfl) fun a hF => ?_
  refine s_end (hK36 _ _ ?_)
  refine wp_seq_k fun K37 hK37 => ?_
  refine wp_iff hF rfl (fun hc25 => ?_) (fun hc25 => ?_)
  ·
   have hgi := hLo.gt i
   obtain ⟨b6, off6, c6, hve, hrow⟩ := rd_rowI hV (i := i) (by omega)
   cases hve
   refine wp_skip (hK37 _ _ ?_)
   refine wp_seq_k fun K38 hK38 => ?_
   refine wp_block ?_
   refine wp_rs fun K39 hK39 => ?_
   refine hF.v (x_move rfl) fun a hF => ?_
   refine hF.v (x_ixa rfl rfl (m_ixs i Try.underlying92 el29.size rfl (by omega))) fun a hF => ?_
   refine hF.v (x_load rfl (m_load flat3 (hrow _ hB))) fun a hF => ?_
   refine hF.v (x_assign rfl) fun a hF => ?_
   refine hF.v (x_assign rfl) fun a hF => ?_
   refine s_end (hK39 _ _ ?_)
   refine wp_block ?_
   rcases (show gt ks i = -1 ∨ gt ks i = 0 ∨ 0 < gt ks i by omega) with hg | hg | hg
   ·
    have hp1 : part1 i (gt ks i) = [] := by rw [part1, if_pos (by omega)]
    refine wp_rs fun K41 hK41 => ?_
    refine hF.v (x_move rfl) fun a hF => ?_
    refine hF.v (eqlT (by omega) rfl rfl) fun a hF => ?_
    refine hF.v (x_assign rfl) fun a hF => ?_
    refine s_end (hK41 _ _ ?_)
    refine wp_if hF rfl ?_
    refine wp_skip (hK38 _ _ ?_)
    refine wp_region_lit ?_
    refine hF.v (x_addn (i + 1) (by omega) (by omega) rfl rfl) fun a hF => ?_
    refine hF.v (x_move rfl) fun a hF => ?_
    refine s_end (hK' _ _ (by omega) ⟨vv, o2, zs, hO, hat, hne, by omega, by rw [pts, hp1, List.append_nil]; exact hP.mono (fun k (hk : w0.heap.size ≤ k ∧ k ≠ o2 ∧ k < top) => (by omega : _ ∧ _ ∧ _)), m1, hB, hF.sub _ rfl⟩)
   ·
    have hp1 : part1 i (gt ks i) = [.var i] := by rw [part1, if_neg (by omega), if_pos hg]
    refine wp_rs fun K42 hK42 => ?_
    refine hF.v (x_move rfl) fun a hF => ?_
    refine hF.v (eqlF (by omega) rfl rfl) fun a hF => ?_
    refine hF.v (x_assign rfl) fun a hF => ?_
    refine s_end (hK42 _ _ ?_)
    refine wp_if hF rfl ?_
    refine wp_rs fun K43 hK43 => ?_
    refine hF.v (x_move rfl) fun a hF => ?_
    refine hF.v (eqlT (by omega) rfl rfl) fun a hF => ?_
    refine hF.v (x_assign rfl) fun a hF => ?_
    refine s_end (hK43 _ _ ?_)
    refine wp_if hF rfl ?_
    refine wp_region_lit ?_
    refine hF.v (x_move rfl) fun a hF => ?_
    refine hF.v (x_move rfl) fun a hF => ?_
    refine s_callB [_] hF E155 rfl (by decide) (var37 (i : Int) w) fun w44 a B45 hF => ?_
    have sB45 := B45.size
    have hB := bt hB B45
    have m1 := m1.old B45
    have hO := own_below hO B45
    have hP := hP.below B45
    refine s_litG [lv (2, (i : Int), .slice none 0 0)] el22 hF (by decide) rfl (by simp [Value.cells, lc]) rfl (by decide) (by decide) fun w46 bl a ebl ml B47 zbl hF => ?_
    have sB47 := B47.size
    have hB := bt hB B47
    have m1 := m1.old B47
    have hO := own_below hO B47
    have hP := hP.below B47
    have ml : Blk w46 bl 24 (lc (2, (i : Int), .slice none 0 0)) := by simpa [Value.cells] using ml
    refine s_app1 (o := o2) el22 hF (by decide) rfl rfl hO ml rfl (one3 rfl) hat (by omega) (by omega) (by decide) (by omega) fun v3 w48 a o3 hOn hOatn how hsrc k49 hkeep hF => ?_
    have sk49 := k49.size
    have hB := k49.under hB (by omega)
    have m1 : Blk w48 b1 _ _ := (hkeep _ m1.lt hne).trans m1
    have hP := hP.k2 k49 (fun k (hk : w0.heap.size ≤ k ∧ k ≠ o2 ∧ k < top) => by omega)
    have hO := hOn
    have hO_at := hOatn
    have hneg : v3.ownBlock ≠ some b1 := fun h => by rcases hsrc b1 h with h | h; exact hne h; omega
    refine hF.v (x_assign rfl) fun a hF => ?_
    refine s_end (hK38 _ _ ?_)
    refine wp_region_lit ?_
    refine hF.v (x_addn (i + 1) (by omega) (by omega) rfl rfl) fun a hF => ?_
    refine hF.v (x_move rfl) fun a hF => ?_
    refine s_end (hK' _ _ (by omega) ⟨v3, o3, zs ++ [(2, (i : Int), .slice none 0 0)], by rw [fm3_app]; simpa using hO, hO_at, hneg, by omega, by rw [pts, hp1]; exact (hP.mono (fun k (hk : w0.heap.size ≤ k ∧ k ≠ o2 ∧ k < top) => (by omega : _ ∧ _ ∧ _))).snoc (⟨rfl, rfl, Rd.nil _ _⟩), m1, hB, hF.sub _ rfl⟩)
   ·
    have hp1 : part1 i (gt ks i) = [.succ (gt ks i).toNat (.var i)] := by rw [part1, if_neg (by omega), if_neg (by omega)]
    refine wp_rs fun K44 hK44 => ?_
    refine hF.v (x_move rfl) fun a hF => ?_
    refine hF.v (eqlF (by omega) rfl rfl) fun a hF => ?_
    refine hF.v (x_assign rfl) fun a hF => ?_
    refine s_end (hK44 _ _ ?_)
    refine wp_if hF rfl ?_
    refine wp_rs fun K45 hK45 => ?_
    refine hF.v (x_move rfl) fun a hF => ?_
    refine hF.v (eqlF (by omega) rfl rfl) fun a hF => ?_
    refine hF.v (x_assign rfl) fun a hF => ?_
    refine s_end (hK45 _ _ ?_)
    refine wp_if hF rfl ?_
    refine wp_region_lit ?_
    refine hF.v (x_move rfl) fun a hF => ?_
    refine hF.v (x_move (v := .int .i64 ((gt ks i).toNat : Int)) (by rw [show ((gt ks i).toNat : Int) = gt ks i by omega]; rfl)) fun a hF => ?_
    refine hF.v (x_move rfl) fun a hF => ?_
    refine s_callB [_] hF E155 rfl (by decide) (var37 (i : Int) w) fun w50 a B51 hF => ?_
    have sB51 := B51.size
    have hB := bt hB B51
    have m1 := m1.old B51
    have hO := own_below hO B51
    have hP := hP.below B51
    refine s_callR (R := fun v w' => ∃ z, v = lv z ∧ RSn w' (fun k => False ∨ w50.heap.size ≤ k) (.succ (gt ks i).toNat (.var i)) z) [_, _] hF E156 rfl (by decide) (succ55n (fun _ => False) (gt ks i).toNat (.var i) (2, (i : Int), .slice none 0 0) w50 ⟨rfl, rfl, Rd.nil _ _⟩) ?_
    rintro _ w52 a ⟨z, rfl, hz0⟩ B53 hF
    have sB53 := B53.size
    have hB := bt hB B53
    have m1 := m1.old B53
    have hO := own_below hO B53
    have hP := hP.below B53
    have hz := (hz0.valid).mono (B := fun k => w50.heap.size ≤ k ∧ k < w52.heap.size) (fun k h => ⟨h.1.resolve_left (fun x => x), h.2⟩)
    clear hz0
    have h1z := hz.rs.one1
    refine s_litG [lv z] el22 hF (by decide) rfl (by simp [Value.cells, lc]) rfl (by decide) (by decide) fun w54 bl a ebl ml B55 zbl hF => ?_
    have sB55 := B55.size
    have hB := bt hB B55
    have m1 := m1.old B55
    have hO := own_below hO B55
    have hP := hP.below B55
    have hz := hz.below B55
    have ml : Blk w54 bl 24 (lc z) := by simpa [Value.cells] using ml
    refine s_app1 (o := o2) el22 hF (by decide) rfl rfl hO ml rfl (one_lc h1z) hat (by omega) (by omega) (by decide) (by omega) fun v3 w56 a o3 hOn hOatn how hsrc k57 hkeep hF => ?_
    have sk57 := k57.size
    have hB := k57.under hB (by omega)
    have m1 : Blk w56 b1 _ _ := (hkeep _ m1.lt hne).trans m1
    have hP := hP.k2 k57 (fun k (hk : w0.heap.size ≤ k ∧ k ≠ o2 ∧ k < top) => by omega)
    have hz := hz.k2 k57 (fun k (hk : w50.heap.size ≤ k ∧ k < w52.heap.size) => by omega)
    have hO := hOn
    have hO_at := hOatn
    have hneg : v3.ownBlock ≠ some b1 := fun h => by rcases hsrc b1 h with h | h; exact hne h; omega
    refine hF.v (x_assign rfl) fun a hF => ?_
    refine s_end (hK38 _ _ ?_)
    refine wp_region_lit ?_
    refine hF.v (x_addn (i + 1) (by omega) (by omega) rfl rfl) fun a hF => ?_
    refine hF.v (x_move rfl) fun a hF => ?_
    refine s_end (hK' _ _ (by omega) ⟨v3, o3, zs ++ [z], by rw [fm3_app]; simpa using hO, hO_at, hneg, by omega, by rw [pts, hp1]; exact (hP.mono (fun k (hk : w0.heap.size ≤ k ∧ k ≠ o2 ∧ k < top) => (by omega : _ ∧ _ ∧ _))).snoc (hz.mono (fun k (hk : w50.heap.size ≤ k ∧ k < w52.heap.size) => (by omega : _ ∧ _ ∧ _))), m1, hB, hF.sub _ rfl⟩)
  ·
   obtain rfl : i = ks.length := by omega
   refine wp_exit (hK34 _ _ ?_)
   refine wp_rs fun K46 hK46 => ?_
   refine hF.v (x_move rfl) fun a hF => ?_
   refine hF.v (x_assign rfl) fun a hF => ?_
   refine s_end (hK46 _ _ ?_)
   refine wp_ret (res_slot hF rfl rfl ⟨_, rfl, ⟨zs, Rd.own hO, hP.mono (fun k (hk : w0.heap.size ≤ k ∧ k ≠ o2 ∧ k < top) => (by omega : _ ≤ _))⟩, hB⟩)
end Go.Proofs.Ytbhhbfdoadecgaa

namespace Go.Proofs.Ytbhhbfdoadecgaa
open Go.RowKit Go.Shelf
set_option linter.unusedVariables false
set_option linter.unusedSimpArgs false

theorem fm3_drop : ∀ (xs : List C3), (xs.drop 1).flatMap lc = (xs.flatMap lc).drop (1 * 3)
 | [] => rfl
 | x :: xs => by simp [lc]
theorem rd_tail {W : World} {a : Option Addr} {N c : Nat} {zs : List C3} (h : Rd W (.slice a N c) 3 zs.length (zs.flatMap lc)) (hz : 0 < zs.length) : Rd W (.slice (if c = 1 then a else a.map (·.add (1 * 3))) (N - 1) (c - 1)) 3 (zs.drop 1).length ((zs.drop 1).flatMap lc) := by
 have := h.from 1 (by omega)
 rw [fm3_drop, List.length_drop]
 exact this
theorem fold_snoc {ps : List SL} {i : Nat} {p q : SL} (h : ps[i]? = some q) : (ps.take (i + 1)).foldl SL.mx p = .mx ((ps.take i).foldl SL.mx p) q := by
 rw [List.take_add_one, h, List.foldl_append]
 rfl
theorem levF_eq {c : Int} {ks : List Int} {ps : List SL} {p : SL} (h : pts c ks ks.length = ps) (h0 : ps[0]? = some p) : levF c ks = (ps.drop 1).foldl SL.mx p := by
 unfold levF
 rw [h]
 cases ps with
 | nil => simp at h0
 | cons q qs => simp at h0; subst h0; rfl

set_option maxRecDepth 100000 in
set_option maxHeartbeats 1600000 in
theorem level41 (c : Int) (ks : List Int) (v : Value) (w0 : World) (hc : 0 ≤ c) (hl : ks.length ≤ 1001) (hLo : Lo ks) (hTm : Tm ks) (hV : Rd w0 v 1 ks.length (ints ks)) : Calls Try.prog 110 #[.agg [.int .i64 c, v].toArray] w0 fun e w' => ∃ u, e = .returned u ∧ (∃ z, u = lv z ∧ RSn w' (fun k => w0.heap.size ≤ k) (levF c ks) z) ∧ Below w0.heap.size w0 w' := by
 have hB := Below.refl w0.heap.size w0
 have sB := hB.size
 refine calls_fs 24 [(0, .agg [.int .i64 c, v].toArray)] Try.func110 rfl rfl rfl rfl rfl fun a hF => ?_
 refine wp_rs fun K1 hK1 => ?_
 refine s_box ([.int .i64 c, v]) hF (by decide) rfl rfl fun w2 b1 a eb1 m1 B3 zb1 hF => ?_
 have sB3 := B3.size
 have hB := bt hB B3
 refine s_alloc hF (by decide) zero24 fun w4 b2 a eb2 m2 B5 zb2 hF => ?_
 have sB5 := B5.size
 have hB := bt hB B5
 have m1 := m1.old B5
 refine s_end (hK1 _ _ ?_)
 refine wp_rs fun K2 hK2 => ?_
 refine hF.v (x_ldW wide59 m1 rfl rfl) fun a hF => ?_
 refine s_callR (R := fun u w' => ∃ zs, Rd w' u 3 zs.length (zs.flatMap lc) ∧ PL w' (fun k => w4.heap.size ≤ k) zs (pts c ks ks.length)) [_] hF E140 rfl (by decide) (parts60 c ks v w4 hc hl hLo (hV.below hB)) ?_
 rintro vv w6 a ⟨zs, hVp, hPq⟩ B7 hF
 have sB7 := B7.size
 have hB := bt hB B7
 have m2 := m2.old B7
 have hPp := hPq.valid.mono (B := fun k => w0.heap.size ≤ k ∧ k ≠ b2 ∧ k < w6.heap.size) (fun k h => ⟨Nat.le_trans (by omega : w0.heap.size ≤ w4.heap.size) h.1, by have := h.1; omega, h.2⟩)
 clear hPq
 have hple := pts_le c ks ks.length
 have hBP := Below.refl w6.heap.size w6
 have hppos := pts_pos (c := c) hTm
 have hPl := hPp.1
 obtain ⟨b8, off8, c8, z0, hve, hz0, hrow0⟩ := rd_row3 hVp (i := 0) (by omega)
 cases hve
 obtain ⟨p0, hp0e, hz0r⟩ := hPp.at hz0
 have h1z0 := hz0r.rs.one1
 refine hF.v (x_assign rfl) fun a hF => ?_
 refine s_end (hK2 _ _ ?_)
 refine wp_rs fun K3 hK3 => ?_
 refine hF.v (x_move rfl) fun a hF => ?_
 refine hF.v (x_ixa rfl rfl (m_ixsK 0 Try.underlying22 el22.size rfl (by omega))) fun a hF => ?_
 refine hF.v (x_ldA wide24 (hrow0 _ hBP) rfl rfl) fun a hF => ?_
 refine s_alloc hF (by decide) zero24 fun w8 b4 a eb4 m4 B9 zb4 hF => ?_
 have sB9 := B9.size
 have hB := bt hB B9
 have hBP := bt hBP B9
 have m2 := m2.old B9
 refine s_putW hF rfl rfl (size_wide wide24) m4 rfl (one_lc h1z0) fun w10 m4 o11 => ?_
 have so11 := o11.size
 have hB := hB.trans (o11.below (by omega))
 have hBP := hBP.trans (o11.below (by omega))
 have m2 := m2.only o11 (by omega)
 refine s_end (hK3 _ _ ?_)
 refine wp_seq_k fun K4 hK4 => ?_
 have hV2 := rd_tail hVp (by omega)
 obtain ⟨a2, ha2⟩ : ∃ a2, a2 = (if c8 = 1 then some (⟨b8, off8, none⟩ : Addr) else (some (⟨b8, off8, none⟩ : Addr)).map (·.add (1 * 3))) := ⟨_, rfl⟩
 rw [← ha2] at hV2
 have hdl : (zs.drop 1).length = zs.length - 1 := by rw [List.length_drop]
 have hb4 := m4.lt
 have hbb : w0.heap.size ≤ b2 ∧ b2 < b4 := ⟨by omega, by omega⟩
 refine wp_rs fun K5 hK5 => ?_
 refine hF.v (x_move rfl) fun a hF => ?_
 refine hF.v (x_slice (v := .slice a2 (zs.length - 1) (c8 - 1)) (vlo := some (.int .i64 1)) (vhi := none) (vmx := none) rfl rfl rfl rfl (by rw [ha2]; exact m_sliceFK 1 Try.underlying22 el22.size rfl (by omega))) fun a hF => ?_
 refine hF.v (x_len Try.underlying22 rfl) fun a hF => ?_
 refine hF.v (x_move rfl) fun a hF => ?_
 refine s_end (hK5 _ _ ?_)
 refine wp_block ?_
 refine wp_up (zs.length - 1) (fun i a w => ∃ z, Blk w b4 24 (lc z) ∧ RSn w (fun k => w0.heap.size ≤ k ∧ k ≠ b2 ∧ k ≠ b4) ((((pts c ks ks.length).drop 1).take i).foldl SL.mx p0) z ∧ Blk w b2 24 [.int .i64 0, .int .i64 0, .slice none 0 0] ∧ Below w0.heap.size w0 w ∧ Below w6.heap.size w6 w ∧ Fs 24 a [(15, .int .i64 (i : Int)), (14, .int .i64 ((zs.length - 1 : Nat) : Int)), (13, .slice a2 (zs.length - 1) (c8 - 1)), (4, .pointer (some ⟨b4, 0, none⟩)), (2, .pointer (some ⟨b2, 0, none⟩))]) ⟨z0, m4, (hz0r.below hBP).mono (fun k h => ⟨h.1, h.2.1, by have := h.2.2; omega⟩), m2, hB, hBP, hF.sub _ rfl⟩ ?_
 repeat clear hF
 clear hB hBP m4 m2
 rintro i a w hi ⟨z, m4, hz, m2, hB, hBP, hF⟩ K' hK'
 have sB := hB.size
 have sBP := hBP.size
 have hml := m4.lt
 obtain ⟨top2, htop2⟩ : ∃ h, h = w.heap.size := ⟨_, rfl⟩
 have hz := hz.valid.mono (B := fun k => w0.heap.size ≤ k ∧ k ≠ b2 ∧ k ≠ b4 ∧ k < top2) (fun k h => ⟨h.1.1, h.1.2.1, h.1.2.2, by have := h.2; omega⟩)
 refine wp_rs fun K6 hK6 => ?_
 refine hF.v (x_lss (b := decide (i < zs.length - 1)) (decide_eq_decide.2 (by omega)) rfl rfl) fun a hF => ?_
 refine s_end (hK6 _ _ ?_)
 refine wp_seq_k fun K7 hK7 => ?_
 refine wp_iff hF rfl (fun hc16 => ?_) (fun hc16 => ?_)
 ·
  obtain ⟨b9, off9, c9, y, hve, hy, hrow⟩ := rd_row3 hV2 (i := i) (by omega)
  rw [hdl] at hve
  cases hve
  have hy1 : zs[i + 1]? = some y := by rw [List.getElem?_drop, Nat.add_comm] at hy; exact hy
  obtain ⟨q, hq1, hyr⟩ := hPp.at hy1
  have hq2 : ((pts c ks ks.length).drop 1)[i]? = some q := by rw [List.getElem?_drop, Nat.add_comm]; exact hq1
  have h1y := hyr.rs.one1
  have h1z := hz.rs.one1
  refine wp_skip (hK7 _ _ ?_)
  refine wp_seq_k fun K8 hK8 => ?_
  refine wp_block ?_
  refine wp_rs fun K9 hK9 => ?_
  refine hF.v (x_ixa rfl rfl (m_ixsK i Try.underlying22 el22.size rfl (by omega))) fun a hF => ?_
  refine hF.v (x_ldA wide24 (hrow _ hBP) rfl rfl) fun a hF => ?_
  refine s_alloc hF (by decide) zero24 fun w12 b6 a eb6 m6 B13 zb6 hF => ?_
  have sB13 := B13.size
  have hB := bt hB B13
  have hBP := bt hBP B13
  have m4 := m4.old B13
  have m2 := m2.old B13
  have hz := hz.below B13
  refine s_putW hF rfl rfl (size_wide wide24) m6 rfl (one_lc h1y) fun w14 m6 o15 => ?_
  have so15 := o15.size
  have hB := hB.trans (o15.below (by omega))
  have hBP := hBP.trans (o15.below (by omega))
  have m4 := m4.only o15 (by omega)
  have m2 := m2.only o15 (by omega)
  have hz := hz.only o15 (fun k (hk : w0.heap.size ≤ k ∧ k ≠ b2 ∧ k ≠ b4 ∧ k < top2) => by omega)
  refine s_end (hK9 _ _ ?_)
  refine wp_region_lit ?_
  refine hF.v (x_ldW wide24 m4 rfl rfl) fun a hF => ?_
  refine hF.v (x_ldW wide24 m6 rfl rfl) fun a hF => ?_
  refine s_callR (R := fun v w' => ∃ z', v = lv z' ∧ RSn w' (fun k => (w0.heap.size ≤ k ∧ k ≠ b2 ∧ k ≠ b4) ∨ w14.heap.size ≤ k) (.mx ((((pts c ks ks.length).drop 1).take i).foldl SL.mx p0) q) z') [_, _] hF E141 rfl (by decide) (join52n (fun k => w0.heap.size ≤ k ∧ k ≠ b2 ∧ k ≠ b4) _ q z y w14 (hz.mono (fun k h => ⟨h.1, h.2.1, h.2.2.1⟩)) ((hyr.below hBP).mono (fun k h => ⟨h.1, h.2.1, by have := h.2.2; omega⟩))) ?_
  rintro _ w16 a ⟨z2, rfl, hz2⟩ B17 hF
  have sB17 := B17.size
  have hB := bt hB B17
  have hBP := bt hBP B17
  have m4 := m4.old B17
  have m2 := m2.old B17
  have hz := hz2.mono (B := fun k => w0.heap.size ≤ k ∧ k ≠ b2 ∧ k ≠ b4) (fun k h => by rcases h with h | h; exact h; exact ⟨by omega, by omega, by omega⟩)
  clear hz2
  have h1z2 := hz.rs.one1
  refine s_putW hF rfl rfl (size_wide wide24) m4 rfl (one_lc h1z2) fun w18 m4 o19 => ?_
  have so19 := o19.size
  have hB := hB.trans (o19.below (by omega))
  have hBP := hBP.trans (o19.below (by omega))
  have m2 := m2.only o19 (by omega)
  have hz := hz.only o19 (fun k (hk : w0.heap.size ≤ k ∧ k ≠ b2 ∧ k ≠ b4) => by omega)
  refine s_end (hK8 _ _ ?_)
  refine wp_region_lit ?_
  refine hF.v (x_addn (i + 1) (by omega) (by omega) rfl rfl) fun a hF => ?_
  refine hF.v (x_move rfl) fun a hF => ?_
  refine s_end (hK' _ _ (by omega) ⟨z2, m4, by rw [fold_snoc hq2]; exact hz, m2, hB, hBP, hF.sub _ rfl⟩)
 ·
  have hPl2 := hPp.1
  have hall : ((pts c ks ks.length).drop 1).take i = (pts c ks ks.length).drop 1 := List.take_of_length_le (by rw [List.length_drop]; omega)
  rw [hall, ← levF_eq rfl hp0e] at hz
  have h1z := hz.rs.one1
  refine wp_exit (hK4 _ _ ?_)
  refine wp_rs fun K10 hK10 => ?_
  refine hF.v (x_ldW wide24 m4 rfl rfl) fun a hF => ?_
  refine s_putW hF rfl rfl (size_wide wide24) m2 rfl (one_lc h1z) fun w20 m2 o21 => ?_
  have so21 := o21.size
  have hB := hB.trans (o21.below (by omega))
  have hz := hz.only o21 (fun k (hk : w0.heap.size ≤ k ∧ k ≠ b2 ∧ k ≠ b4 ∧ k < top2) => by omega)
  refine s_end (hK10 _ _ ?_)
  refine wp_ret (res_cell hF rfl rfl m2 wide24 ⟨_, rfl, ⟨z, rfl, hz.mono (fun k h => h.1)⟩, hB⟩)

set_option maxRecDepth 100000 in
set_option maxHeartbeats 1600000 in
theorem rLevel22 (c : Int) (ks : List Int) (v : Value) (w0 : World) (hc : 0 ≤ c) (hl : ks.length ≤ 1001) (hLo : Lo ks) (hTm : Tm ks) (hV : Rd w0 v 1 ks.length (ints ks)) : Calls Try.prog 73 #[.agg [.int .i64 c, v].toArray] w0 fun e w' => ∃ u, e = .returned u ∧ (∃ z, u = lv z ∧ RSn w' (fun k => w0.heap.size ≤ k) (levF c ks) z) ∧ Below w0.heap.size w0 w' := by
 obtain ⟨av, cv, rfl, _⟩ := hV.form
 have hB := Below.refl w0.heap.size w0
 have sB := hB.size
 refine calls_fs 64 [(0, .agg [.int .i64 c, .slice av ks.length cv].toArray)] Try.func73 rfl rfl rfl rfl rfl fun a hF => ?_
 refine wp_rs fun K1 hK1 => ?_
 refine s_box ([.int .i64 c, .slice av ks.length cv]) hF (by decide) rfl rfl fun w2 b1 a eb1 m1 B3 zb1 hF => ?_
 have sB3 := B3.size
 have hB := bt hB B3
 refine s_alloc hF (by decide) zero24 fun w4 b2 a eb2 m2 B5 zb2 hF => ?_
 have sB5 := B5.size
 have hB := bt hB B5
 have m1 := m1.old B5
 refine s_end (hK1 _ _ ?_)
 refine wp_rs fun K2 hK2 => ?_
 refine hF.v (x_assign rfl) fun a hF => ?_
 refine s_end (hK2 _ _ ?_)
 refine wp_seq_k fun K3 hK3 => ?_
 rcases (show 0 < c ∨ (c = 0 ∧ ks.length = 0) ∨ (c = 0 ∧ ks.length ≠ 0) by omega) with hq | hq | hq
 ·
  have hp0 : pts c ks 0 = [.num c.toNat] := by rw [pts, if_pos (.inl (by omega))]
  refine wp_rs fun K5 hK5 => ?_
  refine hF.v (x_fa0 fa36_0 rfl) fun a hF => ?_
  refine hF.v (x_load rfl (m_load flat3 (m1.cell (j := 0) rfl))) fun a hF => ?_
  refine hF.v (gtrT (by omega) rfl rfl) fun a hF => ?_
  refine hF.v (x_move rfl) fun a hF => ?_
  refine s_grdn 13 hF rfl rfl (by decide) fun a hF => ?_
  refine s_grdn 13 hF rfl rfl (by decide) fun a hF => ?_
  refine s_grdn 13 hF rfl rfl (by decide) fun a hF => ?_
  refine s_grdn 13 hF rfl rfl (by decide) fun a hF => ?_
  refine hF.v (x_pick (b := true) rfl rfl) fun a hF => ?_
  refine s_end (hK5 _ _ ?_)
  refine wp_if hF rfl ?_
  refine wp_region_lit ?_
  refine hF.v (x_move rfl) fun a hF => ?_
  refine hF.v (x_fa0 fa36_0 rfl) fun a hF => ?_
  refine hF.v (x_load rfl (m_load flat3 (m1.cell (j := 0) rfl))) fun a hF => ?_
  refine hF.v (x_build (vs := [(0, _), (1, _)]) rfl (b24_01 _ _ _)) fun a hF => ?_
  refine s_litG [lv (1, c, .slice none 0 0)] el22 hF (by decide) rfl (by simp [Value.cells, lc]) rfl (by decide) (by decide) fun w6 bl a ebl ml B7 zbl hF => ?_
  have sB7 := B7.size
  have hB := bt hB B7
  have m1 := m1.old B7
  have m2 := m2.old B7
  have ml : Blk w6 bl 24 (lc (1, c, .slice none 0 0)) := by simpa [Value.cells] using ml
  have hO : w6.ownsRow w0.heap.size 24 3 (.slice none 0 0) 0 [] := World.ownsRow_nil _ _ _ _
  have hat : ∀ j, (Value.slice none 0 0).ownBlock = some j → j = b1 := fun j h => by cases h
  have hne : (Value.slice none 0 0).ownBlock ≠ some b1 := fun h => by cases h
  have hm1 := m1.lt
  refine s_app1 (o := b1) el22 hF (by decide) rfl rfl hO ml rfl (one3 rfl) hat (by omega) (by omega) (by decide) (by omega) fun v3 w8 a o3 hOn hOatn how hsrc k9 hkeep hF => ?_
  have sk9 := k9.size
  have hB := k9.under hB (by omega)
  have m1 : Blk w8 b1 _ _ := (hkeep _ m1.lt hne).trans m1
  have m2 := m2.k2 k9 (by omega)
  have hO := hOn
  have hO_at := hOatn
  have hneg : v3.ownBlock ≠ some b1 := fun h => by rcases hsrc b1 h with h | h; exact hne h; omega
  refine hF.v (x_assign rfl) fun a hF => ?_
  refine s_end (hK3 _ _ ?_)
  refine wp_seq_k fun K6 hK6 => ?_
  refine wp_rs fun K7 hK7 => ?_
  refine hF.v (x_fa0 fa36_1 rfl) fun a hF => ?_
  refine hF.v (x_load rfl (m_load flat29 (m1.cell (j := 1) rfl))) fun a hF => ?_
  refine hF.v (x_len Try.underlying92 rfl) fun a hF => ?_
  refine hF.v (x_move rfl) fun a hF => ?_
  refine s_end (hK7 _ _ ?_)
  refine wp_block ?_
  have hJ : ∃ v' o' zs, w8.ownsRow w0.heap.size 24 3 v' zs.length (zs.flatMap lc) ∧ (∀ j, v'.ownBlock = some j → j = o') ∧ v'.ownBlock ≠ some b1 ∧ (w0.heap.size ≤ o' ∧ o' < w8.heap.size) ∧ PL w8 (fun k => b2 < k ∧ k ≠ o' ∧ k < w8.heap.size) zs (pts c ks 0) ∧ v3 = v' ∧ (o' = b1 ∨ b2 < o') := ⟨v3, o3, [(1, c, .slice none 0 0)], by simpa using hO, hO_at, hneg, by omega, by rw [hp0]; exact PL.snoc PL.nil ⟨rfl, by show c = _; omega, Rd.nil _ _⟩, rfl, by omega⟩
  obtain ⟨vj, oj, zj, hj1, hj2, hj3, hj4, hj5, hj6, hj7⟩ := hJ
  rw [hj6] at hF
  refine wp_up ks.length (fun i a w => ∃ v' o' zs, w.ownsRow w0.heap.size 24 3 v' zs.length (zs.flatMap lc) ∧ (∀ j, v'.ownBlock = some j → j = o') ∧ v'.ownBlock ≠ some b1 ∧ (w0.heap.size ≤ o' ∧ o' < w.heap.size) ∧ PL w (fun k => b2 < k ∧ k ≠ o' ∧ k < w.heap.size) zs (pts c ks i) ∧ Blk w b1 94 [.int .i64 c, .slice av ks.length cv] ∧ Blk w b2 24 [.int .i64 0, .int .i64 0, .slice none 0 0] ∧ b2 < o' + b2 + 1 ∧ (o' = b1 ∨ b2 < o') ∧ Below w0.heap.size w0 w ∧ Fs 64 a [(28, .int .i64 (i : Int)), (27, .int .i64 (ks.length : Int)), (26, .slice av ks.length cv), (3, v'), (2, .pointer (some ⟨b2, 0, none⟩))]) ⟨vj, oj, zj, hj1, hj2, hj3, hj4, hj5, m1, m2, by omega, hj7, hB, hF.sub _ rfl⟩ ?_
  repeat clear hF
  clear hB m1 m2
  rintro i a wq hi ⟨vv, o2, zs, hO, hat, hne, hlo, hP, m1, m2, _, ho2b, hB, hF⟩ K' hK'
  have sB := hB.size
  have hm1 := m1.lt
  have hm2 := m2.lt
  obtain ⟨top, htop⟩ : ∃ h, h = wq.heap.size := ⟨_, rfl⟩
  rw [← htop] at hP
  have hPl := hP.1
  have hple := pts_le c ks i
  refine wp_rs fun K8 hK8 => ?_
  refine hF.v (x_lss rfl rfl rfl) fun a hF => ?_
  refine s_end (hK8 _ _ ?_)
  refine wp_seq_k fun K9 hK9 => ?_
  refine wp_iff hF rfl (fun hc29 => ?_) (fun hc29 => ?_)
  ·
   have hgi := hLo.gt i
   obtain ⟨b6, off6, c6, hve, hrowk⟩ := rd_rowI hV (i := i) (by omega)
   cases hve
   refine wp_skip (hK9 _ _ ?_)
   refine wp_seq_k fun K10 hK10 => ?_
   refine wp_block ?_
   refine wp_rs fun K11 hK11 => ?_
   refine hF.v (x_move rfl) fun a hF => ?_
   refine hF.v (x_ixa rfl rfl (m_ixs i Try.underlying92 el29.size rfl (by omega))) fun a hF => ?_
   refine hF.v (x_load rfl (m_load flat3 (hrowk _ hB))) fun a hF => ?_
   refine hF.v (x_assign rfl) fun a hF => ?_
   refine hF.v (x_assign rfl) fun a hF => ?_
   refine s_end (hK11 _ _ ?_)
   rcases (show gt ks i = -1 ∨ gt ks i = 0 ∨ 0 < gt ks i by omega) with hg | hg | hg
   ·
    have hp1 : part1 i (gt ks i) = [] := by rw [part1, if_pos (by omega)]
    refine wp_rs fun K13 hK13 => ?_
    refine hF.v (x_move rfl) fun a hF => ?_
    refine hF.v (x_build (vs := [(0, _), (1, _)]) rfl (b24_01 _ _ _)) fun a hF => ?_
    refine s_alloc hF (by decide) zero24 fun w10 b6 a eb6 m6 B11 zb6 hF => ?_
    have sB11 := B11.size
    have hB := bt hB B11
    have m1 := m1.old B11
    have m2 := m2.old B11
    have hO := own_below hO B11
    have hP := hP.below B11
    refine s_putW hF rfl rfl (size_wide wide24) m6 rfl (one3 rfl) fun w12 m6 o13 => ?_
    have so13 := o13.size
    have hB := hB.trans (o13.below (by omega))
    have m1 := m1.only o13 (by omega)
    have m2 := m2.only o13 (by omega)
    have hO := own_only hO o13 (fun e => by have := hat _ e; omega)
    have hP := hP.only o13 (fun k (hk : b2 < k ∧ k ≠ o2 ∧ k < top) => by omega)
    refine s_end (hK13 _ _ ?_)
    refine wp_seq_k fun K14 hK14 => ?_
    refine wp_rs fun K15 hK15 => ?_
    refine hF.v (x_move rfl) fun a hF => ?_
    refine hF.v (gtrF (by omega) rfl rfl) fun a hF => ?_
    refine s_end (hK15 _ _ ?_)
    refine wp_if hF rfl ?_
    refine wp_skip (hK14 _ _ ?_)
    refine wp_rs fun K16 hK16 => ?_
    refine hF.v (x_move rfl) fun a hF => ?_
    refine hF.v (geqF (by omega) rfl rfl) fun a hF => ?_
    refine s_end (hK16 _ _ ?_)
    refine wp_if hF rfl ?_
    refine wp_skip (hK10 _ _ ?_)
    refine wp_region_lit ?_
    refine hF.v (x_addn (i + 1) (by omega) (by omega) rfl rfl) fun a hF => ?_
    refine hF.v (x_move rfl) fun a hF => ?_
    refine s_end (hK' _ _ (by omega) ⟨vv, o2, zs, hO, hat, hne, by omega, by rw [pts, hp1, List.append_nil]; exact hP.mono (fun k (hk : b2 < k ∧ k ≠ o2 ∧ k < top) => (by omega : _ ∧ _ ∧ _)), m1, m2, by omega, ho2b, hB, hF.sub _ rfl⟩)
   ·
    have hp1 : part1 i (gt ks i) = [.var i] := by rw [part1, if_neg (by omega), if_pos hg]
    refine wp_rs fun K17 hK17 => ?_
    refine hF.v (x_move rfl) fun a hF => ?_
    refine hF.v (x_build (vs := [(0, _), (1, _)]) rfl (b24_01 _ _ _)) fun a hF => ?_
    refine s_alloc hF (by decide) zero24 fun w14 b6 a eb6 m6 B15 zb6 hF => ?_
    have sB15 := B15.size
    have hB := bt hB B15
    have m1 := m1.old B15
    have m2 := m2.old B15
    have hO := own_below hO B15
    have hP := hP.below B15
    refine s_putW hF rfl rfl (size_wide wide24) m6 rfl (one3 rfl) fun w16 m6 o17 => ?_
    have so17 := o17.size
    have hB := hB.trans (o17.below (by omega))
    have m1 := m1.only o17 (by omega)
    have m2 := m2.only o17 (by omega)
    have hO := own_only hO o17 (fun e => by have := hat _ e; omega)
    have hP := hP.only o17 (fun k (hk : b2 < k ∧ k ≠ o2 ∧ k < top) => by omega)
    refine s_end (hK17 _ _ ?_)
    refine wp_seq_k fun K18 hK18 => ?_
    refine wp_rs fun K19 hK19 => ?_
    refine hF.v (x_move rfl) fun a hF => ?_
    refine hF.v (gtrF (by omega) rfl rfl) fun a hF => ?_
    refine s_end (hK19 _ _ ?_)
    refine wp_if hF rfl ?_
    refine wp_skip (hK18 _ _ ?_)
    refine wp_rs fun K20 hK20 => ?_
    refine hF.v (x_move rfl) fun a hF => ?_
    refine hF.v (geqT (by omega) rfl rfl) fun a hF => ?_
    refine s_end (hK20 _ _ ?_)
    refine wp_if hF rfl ?_
    refine wp_region_lit ?_
    refine hF.v (x_move rfl) fun a hF => ?_
    refine hF.v (x_ldW wide24 m6 rfl rfl) fun a hF => ?_
    refine s_litG [lv (2, (i : Int), .slice none 0 0)] el22 hF (by decide) rfl (by simp [Value.cells, lc]) rfl (by decide) (by decide) fun w18 bl a ebl ml B19 zbl hF => ?_
    have sB19 := B19.size
    have hB := bt hB B19
    have m1 := m1.old B19
    have m2 := m2.old B19
    have hO := own_below hO B19
    have hP := hP.below B19
    have ml : Blk w18 bl 24 (lc (2, (i : Int), .slice none 0 0)) := by simpa [Value.cells] using ml
    refine s_app1 (o := o2) el22 hF (by decide) rfl rfl hO ml rfl (one3 rfl) hat (by omega) (by omega) (by decide) (by omega) fun v3 w20 a o3 hOn hOatn how hsrc k21 hkeep hF => ?_
    have sk21 := k21.size
    have hB := k21.under hB (by omega)
    have m1 : Blk w20 b1 _ _ := (hkeep _ m1.lt hne).trans m1
    have m2 := m2.k2 k21 (by omega)
    have hP := hP.k2 k21 (fun k (hk : b2 < k ∧ k ≠ o2 ∧ k < top) => by omega)
    have hO := hOn
    have hO_at := hOatn
    have hneg : v3.ownBlock ≠ some b1 := fun h => by rcases hsrc b1 h with h | h; exact hne h; omega
    refine hF.v (x_assign rfl) fun a hF => ?_
    refine s_end (hK10 _ _ ?_)
    refine wp_region_lit ?_
    refine hF.v (x_addn (i + 1) (by omega) (by omega) rfl rfl) fun a hF => ?_
    refine hF.v (x_move rfl) fun a hF => ?_
    refine s_end (hK' _ _ (by omega) ⟨v3, o3, zs ++ [(2, (i : Int), .slice none 0 0)], by rw [fm3_app]; simpa using hO, hO_at, hneg, by omega, by rw [pts, hp1]; exact (hP.mono (fun k (hk : b2 < k ∧ k ≠ o2 ∧ k < top) => (by omega : _ ∧ _ ∧ _))).snoc (⟨rfl, rfl, Rd.nil _ _⟩), m1, m2, by omega, by omega, hB, hF.sub _ rfl⟩)
   ·
    have hp1 : part1 i (gt ks i) = [.succ (gt ks i).toNat (.var i)] := by rw [part1, if_neg (by omega), if_neg (by omega)]
    refine wp_rs fun K21 hK21 => ?_
    refine hF.v (x_move rfl) fun a hF => ?_
    refine hF.v (x_build (vs := [(0, _), (1, _)]) rfl (b24_01 _ _ _)) fun a hF => ?_
    refine s_alloc hF (by decide) zero24 fun w22 b6 a eb6 m6 B23 zb6 hF => ?_
    have sB23 := B23.size
    have hB := bt hB B23
    have m1 := m1.old B23
    have m2 := m2.old B23
    have hO := own_below hO B23
    have hP := hP.below B23
    refine s_putW hF rfl rfl (size_wide wide24) m6 rfl (one3 rfl) fun w24 m6 o25 => ?_
    have so25 := o25.size
    have hB := hB.trans (o25.below (by omega))
    have m1 := m1.only o25 (by omega)
    have m2 := m2.only o25 (by omega)
    have hO := own_only hO o25 (fun e => by have := hat _ e; omega)
    have hP := hP.only o25 (fun k (hk : b2 < k ∧ k ≠ o2 ∧ k < top) => by omega)
    refine s_end (hK21 _ _ ?_)
    refine wp_seq_k fun K22 hK22 => ?_
    refine wp_rs fun K23 hK23 => ?_
    refine hF.v (x_move rfl) fun a hF => ?_
    refine hF.v (gtrT (by omega) rfl rfl) fun a hF => ?_
    refine s_end (hK23 _ _ ?_)
    refine wp_if hF rfl ?_
    refine wp_region_lit ?_
    refine hF.v (x_move rfl) fun a hF => ?_
    refine hF.v (x_ldW wide24 m6 rfl rfl) fun a hF => ?_
    refine s_litG [lv (2, (i : Int), .slice none 0 0)] el22 hF (by decide) rfl (by simp [Value.cells, lc]) rfl (by decide) (by decide) fun w26 bs a ebs ms B27 zbs hF => ?_
    have sB27 := B27.size
    have hB := bt hB B27
    have m1 := m1.old B27
    have m2 := m2.old B27
    have hO := own_below hO B27
    have hP := hP.below B27
    have m6 := m6.old B27
    have ms : Blk w26 bs 24 (lc (2, (i : Int), .slice none 0 0)) := by simpa [Value.cells] using ms
    refine hF.v (x_build (vs := [(0, _), (1, _), (2, _)]) rfl (b24_012 _ _ _ _ _ _)) fun a hF => ?_
    refine s_putW hF rfl rfl (size_wide wide24) m6 rfl (one3 rfl) fun w28 m6 o29 => ?_
    have so29 := o29.size
    have hB := hB.trans (o29.below (by omega))
    have m1 := m1.only o29 (by omega)
    have m2 := m2.only o29 (by omega)
    have hO := own_only hO o29 (fun e => by have := hat _ e; omega)
    have hP := hP.only o29 (fun k (hk : b2 < k ∧ k ≠ o2 ∧ k < top) => by omega)
    have ms := ms.only o29 (by omega)
    refine s_end (hK22 _ _ ?_)
    refine wp_rs fun K24 hK24 => ?_
    refine hF.v (x_move rfl) fun a hF => ?_
    refine hF.v (geqT (by omega) rfl rfl) fun a hF => ?_
    refine s_end (hK24 _ _ ?_)
    refine wp_if hF rfl ?_
    refine wp_region_lit ?_
    refine hF.v (x_move rfl) fun a hF => ?_
    refine hF.v (x_ldW wide24 m6 rfl rfl) fun a hF => ?_
    refine s_litG [lv (3, gt ks i, .slice (some ⟨bs, 0, none⟩) 1 1)] el22 hF (by decide) rfl (by simp [Value.cells, lc]) rfl (by decide) (by decide) fun w30 bl a ebl ml B31 zbl hF => ?_
    have sB31 := B31.size
    have hB := bt hB B31
    have m1 := m1.old B31
    have m2 := m2.old B31
    have hO := own_below hO B31
    have hP := hP.below B31
    have ms := ms.old B31
    have ml : Blk w30 bl 24 (lc (3, gt ks i, .slice (some ⟨bs, 0, none⟩) 1 1)) := by simpa [Value.cells] using ml
    refine s_app1 (o := o2) el22 hF (by decide) rfl rfl hO ml rfl (one3 rfl) hat (by omega) (by omega) (by decide) (by omega) fun v3 w32 a o3 hOn hOatn how hsrc k33 hkeep hF => ?_
    have sk33 := k33.size
    have hB := k33.under hB (by omega)
    have m1 : Blk w32 b1 _ _ := (hkeep _ m1.lt hne).trans m1
    have m2 := m2.k2 k33 (by omega)
    have hP := hP.k2 k33 (fun k (hk : b2 < k ∧ k ≠ o2 ∧ k < top) => by omega)
    have ms := ms.k2 k33 (by omega)
    have hO := hOn
    have hO_at := hOatn
    have hneg : v3.ownBlock ≠ some b1 := fun h => by rcases hsrc b1 h with h | h; exact hne h; omega
    refine hF.v (x_assign rfl) fun a hF => ?_
    refine s_end (hK10 _ _ ?_)
    refine wp_region_lit ?_
    refine hF.v (x_addn (i + 1) (by omega) (by omega) rfl rfl) fun a hF => ?_
    refine hF.v (x_move rfl) fun a hF => ?_
    refine s_end (hK' _ _ (by omega) ⟨v3, o3, zs ++ [(3, gt ks i, .slice (some ⟨bs, 0, none⟩) 1 1)], by rw [fm3_app]; simpa using hO, hO_at, hneg, by omega, by rw [pts, hp1]; exact (hP.mono (fun k (hk : b2 < k ∧ k ≠ o2 ∧ k < top) => (by omega : _ ∧ _ ∧ _))).snoc (⟨rfl, by show gt ks i = _; omega, (2, (i : Int), .slice none 0 0), Rd.blk (k := 3) ms rfl, fun j h => by cases h; show b2 < bs ∧ bs ≠ o3 ∧ bs < _; have := ms.lt; omega, ⟨rfl, rfl, Rd.nil _ _⟩⟩), m1, m2, by omega, by omega, hB, hF.sub _ rfl⟩)
  ·
   obtain rfl : i = ks.length := by omega
   have hVp := Rd.own hO
   have hPp := hP.mono (B := fun k => w0.heap.size ≤ k ∧ k ≠ b2 ∧ k < wq.heap.size) (fun k (hk : b2 < k ∧ k ≠ o2 ∧ k < top) => (by omega : _ ∧ _ ∧ _))
   have hBP := Below.refl wq.heap.size wq
   have hppos := pts_pos (c := c) hTm
   have hPl := hPp.1
   obtain ⟨b8, off8, c8, z0, hve, hz0, hrow0⟩ := rd_row3 hVp (i := 0) (by omega)
   cases hve
   obtain ⟨p0, hp0e, hz0r⟩ := hPp.at hz0
   have h1z0 := hz0r.rs.one1
   clear hP
   refine wp_exit (hK6 _ _ ?_)
   refine wp_rs fun K25 hK25 => ?_
   refine hF.v (x_move rfl) fun a hF => ?_
   refine hF.v (x_ixa rfl rfl (m_ixsK 0 Try.underlying22 el22.size rfl (by omega))) fun a hF => ?_
   refine hF.v (x_ldA wide24 (hrow0 _ hBP) rfl rfl) fun a hF => ?_
   refine s_alloc hF (by decide) zero24 fun w34 b7 a eb7 m7 B35 zb7 hF => ?_
   have sB35 := B35.size
   have hB := bt hB B35
   have hBP := bt hBP B35
   have m2 := m2.old B35
   refine s_putW hF rfl rfl (size_wide wide24) m7 rfl (one_lc h1z0) fun w36 m7 o37 => ?_
   have so37 := o37.size
   have hB := hB.trans (o37.below (by omega))
   have hBP := hBP.trans (o37.below (by omega))
   have m2 := m2.only o37 (by omega)
   refine s_end (hK25 _ _ ?_)
   refine wp_seq_k fun K26 hK26 => ?_
   have hV2 := rd_tail hVp (by omega)
   obtain ⟨a2, ha2⟩ : ∃ a2, a2 = (if c8 = 1 then some (⟨b8, off8, none⟩ : Addr) else (some (⟨b8, off8, none⟩ : Addr)).map (·.add (1 * 3))) := ⟨_, rfl⟩
   rw [← ha2] at hV2
   have hdl : (zs.drop 1).length = zs.length - 1 := by rw [List.length_drop]
   have hb7 := m7.lt
   refine wp_rs fun K27 hK27 => ?_
   refine hF.v (x_move rfl) fun a hF => ?_
   refine hF.v (x_slice (v := .slice a2 (zs.length - 1) (c8 - 1)) (vlo := some (.int .i64 1)) (vhi := none) (vmx := none) rfl rfl rfl rfl (by rw [ha2]; exact m_sliceFK 1 Try.underlying22 el22.size rfl (by omega))) fun a hF => ?_
   refine hF.v (x_len Try.underlying22 rfl) fun a hF => ?_
   refine hF.v (x_move rfl) fun a hF => ?_
   refine s_end (hK27 _ _ ?_)
   refine wp_block ?_
   refine wp_up (zs.length - 1) (fun i a w => ∃ z, Blk w b7 24 (lc z) ∧ RSn w (fun k => w0.heap.size ≤ k ∧ k ≠ b2 ∧ k ≠ b7) ((((pts c ks ks.length).drop 1).take i).foldl SL.mx p0) z ∧ Blk w b2 24 [.int .i64 0, .int .i64 0, .slice none 0 0] ∧ Below w0.heap.size w0 w ∧ Below wq.heap.size wq w ∧ Fs 64 a [(54, .int .i64 (i : Int)), (53, .int .i64 ((zs.length - 1 : Nat) : Int)), (52, .slice a2 (zs.length - 1) (c8 - 1)), (7, .pointer (some ⟨b7, 0, none⟩)), (2, .pointer (some ⟨b2, 0, none⟩))]) ⟨z0, m7, (hz0r.below hBP).mono (fun k h => ⟨h.1, h.2.1, by have := h.2.2; omega⟩), m2, hB, hBP, hF.sub _ rfl⟩ ?_
   repeat clear hF
   clear hB hBP m7 m2
   rintro i a w hi ⟨z, m7, hz, m2, hB, hBP, hF⟩ K' hK'
   have sB := hB.size
   have sBP := hBP.size
   have hml := m7.lt
   obtain ⟨top2, htop2⟩ : ∃ h, h = w.heap.size := ⟨_, rfl⟩
   have hz := hz.valid.mono (B := fun k => w0.heap.size ≤ k ∧ k ≠ b2 ∧ k ≠ b7 ∧ k < top2) (fun k h => ⟨h.1.1, h.1.2.1, h.1.2.2, by have := h.2; omega⟩)
   refine wp_rs fun K28 hK28 => ?_
   refine hF.v (x_lss (b := decide (i < zs.length - 1)) (decide_eq_decide.2 (by omega)) rfl rfl) fun a hF => ?_
   refine s_end (hK28 _ _ ?_)
   refine wp_seq_k fun K29 hK29 => ?_
   refine wp_iff hF rfl (fun hc55 => ?_) (fun hc55 => ?_)
   ·
    obtain ⟨b9, off9, c9, y, hve, hy, hrow⟩ := rd_row3 hV2 (i := i) (by omega)
    rw [hdl] at hve
    cases hve
    have hy1 : zs[i + 1]? = some y := by rw [List.getElem?_drop, Nat.add_comm] at hy; exact hy
    obtain ⟨q, hq1, hyr⟩ := hPp.at hy1
    have hq2 : ((pts c ks ks.length).drop 1)[i]? = some q := by rw [List.getElem?_drop, Nat.add_comm]; exact hq1
    have h1y := hyr.rs.one1
    have h1z := hz.rs.one1
    refine wp_skip (hK29 _ _ ?_)
    refine wp_seq_k fun K30 hK30 => ?_
    refine wp_block ?_
    refine wp_rs fun K31 hK31 => ?_
    refine hF.v (x_ixa rfl rfl (m_ixsK i Try.underlying22 el22.size rfl (by omega))) fun a hF => ?_
    refine hF.v (x_ldA wide24 (hrow _ hBP) rfl rfl) fun a hF => ?_
    refine s_alloc hF (by decide) zero24 fun w38 b9 a eb9 m9 B39 zb9 hF => ?_
    have sB39 := B39.size
    have hB := bt hB B39
    have hBP := bt hBP B39
    have m7 := m7.old B39
    have m2 := m2.old B39
    have hz := hz.below B39
    refine s_putW hF rfl rfl (size_wide wide24) m9 rfl (one_lc h1y) fun w40 m9 o41 => ?_
    have so41 := o41.size
    have hB := hB.trans (o41.below (by omega))
    have hBP := hBP.trans (o41.below (by omega))
    have m7 := m7.only o41 (by omega)
    have m2 := m2.only o41 (by omega)
    have hz := hz.only o41 (fun k (hk : w0.heap.size ≤ k ∧ k ≠ b2 ∧ k ≠ b7 ∧ k < top2) => by omega)
    refine s_end (hK31 _ _ ?_)
    refine wp_region_lit ?_
    refine hF.v (x_ldW wide24 m7 rfl rfl) fun a hF => ?_
    refine hF.v (x_ldW wide24 m9 rfl rfl) fun a hF => ?_
    refine s_litG [lv z, lv y] el22 hF (by decide) rfl (by simp [Value.cells, lc]) rfl (by decide) (by decide) fun w42 bl a ebl ml B43 zbl hF => ?_
    have sB43 := B43.size
    have hB := bt hB B43
    have hBP := bt hBP B43
    have m7 := m7.old B43
    have m2 := m2.old B43
    have hz := hz.below B43
    refine hF.v (x_build (vs := [(0, _), (2, _)]) rfl (b24_02 _ _ _ _ _)) fun a hF => ?_
    refine s_putW (vs := lc (4, 0, .slice (some ⟨bl, 0, none⟩) 2 2)) hF rfl rfl (size_wide wide24) m7 rfl (one3 rfl) fun w44 m7 o45 => ?_
    have so45 := o45.size
    have hB := hB.trans (o45.below (by omega))
    have hBP := hBP.trans (o45.below (by omega))
    have m2 := m2.only o45 (by omega)
    have hz := hz.only o45 (fun k (hk : w0.heap.size ≤ k ∧ k ≠ b2 ∧ k ≠ b7 ∧ k < top2) => by omega)
    have ml := ml.only o45 (by omega)
    have hz : RSn w44 (fun k => w0.heap.size ≤ k ∧ k ≠ b2 ∧ k ≠ b7) (.mx ((((pts c ks ks.length).drop 1).take i).foldl SL.mx p0) q) (4, 0, .slice (some ⟨bl, 0, none⟩) 2 2) := ⟨rfl, z, y, Rd.blk (k := 3) (by simpa [Value.cells] using ml) (by simp [lc]), fun j h => by cases h; show _ ≤ bl ∧ bl ≠ b2 ∧ bl ≠ b7; omega, hz.mono (fun k h => ⟨h.1, h.2.1, h.2.2.1⟩), (hyr.below hBP).mono (fun k h => ⟨h.1, h.2.1, by have := h.2.2; omega⟩)⟩
    refine s_end (hK30 _ _ ?_)
    refine wp_region_lit ?_
    refine hF.v (x_addn (i + 1) (by omega) (by omega) rfl rfl) fun a hF => ?_
    refine hF.v (x_move rfl) fun a hF => ?_
    refine s_end (hK' _ _ (by omega) ⟨_, m7, by rw [fold_snoc hq2]; exact hz, m2, hB, hBP, hF.sub _ rfl⟩)
   ·
    have hPl2 := hPp.1
    have hall : ((pts c ks ks.length).drop 1).take i = (pts c ks ks.length).drop 1 := List.take_of_length_le (by rw [List.length_drop]; omega)
    rw [hall, ← levF_eq rfl hp0e] at hz
    have h1z := hz.rs.one1
    refine wp_exit (hK26 _ _ ?_)
    refine wp_rs fun K32 hK32 => ?_
    refine hF.v (x_ldW wide24 m7 rfl rfl) fun a hF => ?_
    refine s_putW hF rfl rfl (size_wide wide24) m2 rfl (one_lc h1z) fun w46 m2 o47 => ?_
    have so47 := o47.size
    have hB := hB.trans (o47.below (by omega))
    have hz := hz.only o47 (fun k (hk : w0.heap.size ≤ k ∧ k ≠ b2 ∧ k ≠ b7 ∧ k < top2) => by omega)
    refine s_end (hK32 _ _ ?_)
    refine wp_ret (res_cell hF rfl rfl m2 wide24 ⟨_, rfl, ⟨z, rfl, hz.mono (fun k h => h.1)⟩, hB⟩)
 ·
  have hp0 : pts c ks 0 = [.num c.toNat] := by rw [pts, if_pos (.inr (List.eq_nil_of_length_eq_zero hq.2))]
  refine wp_rs fun K33 hK33 => ?_
  refine hF.v (x_fa0 fa36_0 rfl) fun a hF => ?_
  refine hF.v (x_load rfl (m_load flat3 (m1.cell (j := 0) rfl))) fun a hF => ?_
  refine hF.v (gtrF (by omega) rfl rfl) fun a hF => ?_
  refine hF.v (x_move rfl) fun a hF => ?_
  refine s_grd 13 hF rfl rfl rfl ?_
  refine hF.v (x_fa0 fa36_1 rfl) fun a hF => ?_
  refine s_grd 13 hF rfl rfl rfl ?_
  refine hF.v (x_load rfl (m_load flat29 (m1.cell (j := 1) rfl))) fun a hF => ?_
  refine s_grd 13 hF rfl rfl rfl ?_
  refine hF.v (x_len Try.underlying92 rfl) fun a hF => ?_
  refine s_grd 13 hF rfl rfl rfl ?_
  refine hF.v (eqlT (by omega) rfl rfl) fun a hF => ?_
  refine hF.v (x_pick (b := false) rfl rfl) fun a hF => ?_
  refine s_end (hK33 _ _ ?_)
  refine wp_if hF rfl ?_
  refine wp_region_lit ?_
  refine hF.v (x_move rfl) fun a hF => ?_
  refine hF.v (x_fa0 fa36_0 rfl) fun a hF => ?_
  refine hF.v (x_load rfl (m_load flat3 (m1.cell (j := 0) rfl))) fun a hF => ?_
  refine hF.v (x_build (vs := [(0, _), (1, _)]) rfl (b24_01 _ _ _)) fun a hF => ?_
  refine s_litG [lv (1, c, .slice none 0 0)] el22 hF (by decide) rfl (by simp [Value.cells, lc]) rfl (by decide) (by decide) fun w48 bl a ebl ml B49 zbl hF => ?_
  have sB49 := B49.size
  have hB := bt hB B49
  have m1 := m1.old B49
  have m2 := m2.old B49
  have ml : Blk w48 bl 24 (lc (1, c, .slice none 0 0)) := by simpa [Value.cells] using ml
  have hO : w48.ownsRow w0.heap.size 24 3 (.slice none 0 0) 0 [] := World.ownsRow_nil _ _ _ _
  have hat : ∀ j, (Value.slice none 0 0).ownBlock = some j → j = b1 := fun j h => by cases h
  have hne : (Value.slice none 0 0).ownBlock ≠ some b1 := fun h => by cases h
  have hm1 := m1.lt
  refine s_app1 (o := b1) el22 hF (by decide) rfl rfl hO ml rfl (one3 rfl) hat (by omega) (by omega) (by decide) (by omega) fun v3 w50 a o3 hOn hOatn how hsrc k51 hkeep hF => ?_
  have sk51 := k51.size
  have hB := k51.under hB (by omega)
  have m1 : Blk w50 b1 _ _ := (hkeep _ m1.lt hne).trans m1
  have m2 := m2.k2 k51 (by omega)
  have hO := hOn
  have hO_at := hOatn
  have hneg : v3.ownBlock ≠ some b1 := fun h => by rcases hsrc b1 h with h | h; exact hne h; omega
  refine hF.v (x_assign rfl) fun a hF => ?_
  refine s_end (hK3 _ _ ?_)
  refine wp_seq_k fun K34 hK34 => ?_
  refine wp_rs fun K35 hK35 => ?_
  refine hF.v (x_fa0 fa36_1 rfl) fun a hF => ?_
  refine hF.v (x_load rfl (m_load flat29 (m1.cell (j := 1) rfl))) fun a hF => ?_
  refine hF.v (x_len Try.underlying92 rfl) fun a hF => ?_
  refine hF.v (x_move rfl) fun a hF => ?_
  refine s_end (hK35 _ _ ?_)
  refine wp_block ?_
  have hJ : ∃ v' o' zs, w50.ownsRow w0.heap.size 24 3 v' zs.length (zs.flatMap lc) ∧ (∀ j, v'.ownBlock = some j → j = o') ∧ v'.ownBlock ≠ some b1 ∧ (w0.heap.size ≤ o' ∧ o' < w50.heap.size) ∧ PL w50 (fun k => b2 < k ∧ k ≠ o' ∧ k < w50.heap.size) zs (pts c ks 0) ∧ v3 = v' ∧ (o' = b1 ∨ b2 < o') := ⟨v3, o3, [(1, c, .slice none 0 0)], by simpa using hO, hO_at, hneg, by omega, by rw [hp0]; exact PL.snoc PL.nil ⟨rfl, by show c = _; omega, Rd.nil _ _⟩, rfl, by omega⟩
  obtain ⟨vj, oj, zj, hj1, hj2, hj3, hj4, hj5, hj6, hj7⟩ := hJ
  rw [hj6] at hF
  refine wp_up ks.length (fun i a w => ∃ v' o' zs, w.ownsRow w0.heap.size 24 3 v' zs.length (zs.flatMap lc) ∧ (∀ j, v'.ownBlock = some j → j = o') ∧ v'.ownBlock ≠ some b1 ∧ (w0.heap.size ≤ o' ∧ o' < w.heap.size) ∧ PL w (fun k => b2 < k ∧ k ≠ o' ∧ k < w.heap.size) zs (pts c ks i) ∧ Blk w b1 94 [.int .i64 c, .slice av ks.length cv] ∧ Blk w b2 24 [.int .i64 0, .int .i64 0, .slice none 0 0] ∧ b2 < o' + b2 + 1 ∧ (o' = b1 ∨ b2 < o') ∧ Below w0.heap.size w0 w ∧ Fs 64 a [(28, .int .i64 (i : Int)), (27, .int .i64 (ks.length : Int)), (26, .slice av ks.length cv), (3, v'), (2, .pointer (some ⟨b2, 0, none⟩))]) ⟨vj, oj, zj, hj1, hj2, hj3, hj4, hj5, m1, m2, by omega, hj7, hB, hF.sub _ rfl⟩ ?_
  repeat clear hF
  clear hB m1 m2
  rintro i a wq hi ⟨vv, o2, zs, hO, hat, hne, hlo, hP, m1, m2, _, ho2b, hB, hF⟩ K' hK'
  have sB := hB.size
  have hm1 := m1.lt
  have hm2 := m2.lt
  obtain ⟨top, htop⟩ : ∃ h, h = wq.heap.size := ⟨_, rfl⟩
  rw [← htop] at hP
  have hPl := hP.1
  have hple := pts_le c ks i
  refine wp_rs fun K36 hK36 => ?_
  refine hF.v (x_lss rfl rfl rfl) fun a hF => ?_
  refine s_end (hK36 _ _ ?_)
  refine wp_seq_k fun K37 hK37 => ?_
  refine wp_iff hF rfl (fun hc29 => ?_) (fun hc29 => ?_)
  ·
   have hgi := hLo.gt i
   obtain ⟨b6, off6, c6, hve, hrowk⟩ := rd_rowI hV (i := i) (by omega)
   cases hve
   refine wp_skip (hK37 _ _ ?_)
   refine wp_seq_k fun K38 hK38 => ?_
   refine wp_block ?_
   refine wp_rs fun K39 hK39 => ?_
   refine hF.v (x_move rfl) fun a hF => ?_
   refine hF.v (x_ixa rfl rfl (m_ixs i Try.underlying92 el29.size rfl (by omega))) fun a hF => ?_
   refine hF.v (x_load rfl (m_load flat3 (hrowk _ hB))) fun a hF => ?_
   refine hF.v (x_assign rfl) fun a hF => ?_
   refine hF.v (x_assign rfl) fun a hF => ?_
   refine s_end (hK39 _ _ ?_)
   rcases (show gt ks i = -1 ∨ gt ks i = 0 ∨ 0 < gt ks i by omega) with hg | hg | hg
   ·
    have hp1 : part1 i (gt ks i) = [] := by rw [part1, if_pos (by omega)]
    refine wp_rs fun K41 hK41 => ?_
    refine hF.v (x_move rfl) fun a hF => ?_
    refine hF.v (x_build (vs := [(0, _), (1, _)]) rfl (b24_01 _ _ _)) fun a hF => ?_
    refine s_alloc hF (by decide) zero24 fun w52 b6 a eb6 m6 B53 zb6 hF => ?_
    have sB53 := B53.size
    have hB := bt hB B53
    have m1 := m1.old B53
    have m2 := m2.old B53
    have hO := own_below hO B53
    have hP := hP.below B53
    refine s_putW hF rfl rfl (size_wide wide24) m6 rfl (one3 rfl) fun w54 m6 o55 => ?_
    have so55 := o55.size
    have hB := hB.trans (o55.below (by omega))
    have m1 := m1.only o55 (by omega)
    have m2 := m2.only o55 (by omega)
    have hO := own_only hO o55 (fun e => by have := hat _ e; omega)
    have hP := hP.only o55 (fun k (hk : b2 < k ∧ k ≠ o2 ∧ k < top) => by omega)
    refine s_end (hK41 _ _ ?_)
    refine wp_seq_k fun K42 hK42 => ?_
    refine wp_rs fun K43 hK43 => ?_
    refine hF.v (x_move rfl) fun a hF => ?_
    refine hF.v (gtrF (by omega) rfl rfl) fun a hF => ?_
    refine s_end (hK43 _ _ ?_)
    refine wp_if hF rfl ?_
    refine wp_skip (hK42 _ _ ?_)
    refine wp_rs fun K44 hK44 => ?_
    refine hF.v (x_move rfl) fun a hF => ?_
    refine hF.v (geqF (by omega) rfl rfl) fun a hF => ?_
    refine s_end (hK44 _ _ ?_)
    refine wp_if hF rfl ?_
    refine wp_skip (hK38 _ _ ?_)
    refine wp_region_lit ?_
    refine hF.v (x_addn (i + 1) (by omega) (by omega) rfl rfl) fun a hF => ?_
    refine hF.v (x_move rfl) fun a hF => ?_
    refine s_end (hK' _ _ (by omega) ⟨vv, o2, zs, hO, hat, hne, by omega, by rw [pts, hp1, List.append_nil]; exact hP.mono (fun k (hk : b2 < k ∧ k ≠ o2 ∧ k < top) => (by omega : _ ∧ _ ∧ _)), m1, m2, by omega, ho2b, hB, hF.sub _ rfl⟩)
   ·
    have hp1 : part1 i (gt ks i) = [.var i] := by rw [part1, if_neg (by omega), if_pos hg]
    refine wp_rs fun K45 hK45 => ?_
    refine hF.v (x_move rfl) fun a hF => ?_
    refine hF.v (x_build (vs := [(0, _), (1, _)]) rfl (b24_01 _ _ _)) fun a hF => ?_
    refine s_alloc hF (by decide) zero24 fun w56 b6 a eb6 m6 B57 zb6 hF => ?_
    have sB57 := B57.size
    have hB := bt hB B57
    have m1 := m1.old B57
    have m2 := m2.old B57
    have hO := own_below hO B57
    have hP := hP.below B57
    refine s_putW hF rfl rfl (size_wide wide24) m6 rfl (one3 rfl) fun w58 m6 o59 => ?_
    have so59 := o59.size
    have hB := hB.trans (o59.below (by omega))
    have m1 := m1.only o59 (by omega)
    have m2 := m2.only o59 (by omega)
    have hO := own_only hO o59 (fun e => by have := hat _ e; omega)
    have hP := hP.only o59 (fun k (hk : b2 < k ∧ k ≠ o2 ∧ k < top) => by omega)
    refine s_end (hK45 _ _ ?_)
    refine wp_seq_k fun K46 hK46 => ?_
    refine wp_rs fun K47 hK47 => ?_
    refine hF.v (x_move rfl) fun a hF => ?_
    refine hF.v (gtrF (by omega) rfl rfl) fun a hF => ?_
    refine s_end (hK47 _ _ ?_)
    refine wp_if hF rfl ?_
    refine wp_skip (hK46 _ _ ?_)
    refine wp_rs fun K48 hK48 => ?_
    refine hF.v (x_move rfl) fun a hF => ?_
    refine hF.v (geqT (by omega) rfl rfl) fun a hF => ?_
    refine s_end (hK48 _ _ ?_)
    refine wp_if hF rfl ?_
    refine wp_region_lit ?_
    refine hF.v (x_move rfl) fun a hF => ?_
    refine hF.v (x_ldW wide24 m6 rfl rfl) fun a hF => ?_
    refine s_litG [lv (2, (i : Int), .slice none 0 0)] el22 hF (by decide) rfl (by simp [Value.cells, lc]) rfl (by decide) (by decide) fun w60 bl a ebl ml B61 zbl hF => ?_
    have sB61 := B61.size
    have hB := bt hB B61
    have m1 := m1.old B61
    have m2 := m2.old B61
    have hO := own_below hO B61
    have hP := hP.below B61
    have ml : Blk w60 bl 24 (lc (2, (i : Int), .slice none 0 0)) := by simpa [Value.cells] using ml
    refine s_app1 (o := o2) el22 hF (by decide) rfl rfl hO ml rfl (one3 rfl) hat (by omega) (by omega) (by decide) (by omega) fun v3 w62 a o3 hOn hOatn how hsrc k63 hkeep hF => ?_
    have sk63 := k63.size
    have hB := k63.under hB (by omega)
    have m1 : Blk w62 b1 _ _ := (hkeep _ m1.lt hne).trans m1
    have m2 := m2.k2 k63 (by omega)
    have hP := hP.k2 k63 (fun k (hk : b2 < k ∧ k ≠ o2 ∧ k < top) => by omega)
    have hO := hOn
    have hO_at := hOatn
    have hneg : v3.ownBlock ≠ some b1 := fun h => by rcases hsrc b1 h with h | h; exact hne h; omega
    refine hF.v (x_assign rfl) fun a hF => ?_
    refine s_end (hK38 _ _ ?_)
    refine wp_region_lit ?_
    refine hF.v (x_addn (i + 1) (by omega) (by omega) rfl rfl) fun a hF => ?_
    refine hF.v (x_move rfl) fun a hF => ?_
    refine s_end (hK' _ _ (by omega) ⟨v3, o3, zs ++ [(2, (i : Int), .slice none 0 0)], by rw [fm3_app]; simpa using hO, hO_at, hneg, by omega, by rw [pts, hp1]; exact (hP.mono (fun k (hk : b2 < k ∧ k ≠ o2 ∧ k < top) => (by omega : _ ∧ _ ∧ _))).snoc (⟨rfl, rfl, Rd.nil _ _⟩), m1, m2, by omega, by omega, hB, hF.sub _ rfl⟩)
   ·
    have hp1 : part1 i (gt ks i) = [.succ (gt ks i).toNat (.var i)] := by rw [part1, if_neg (by omega), if_neg (by omega)]
    refine wp_rs fun K49 hK49 => ?_
    refine hF.v (x_move rfl) fun a hF => ?_
    refine hF.v (x_build (vs := [(0, _), (1, _)]) rfl (b24_01 _ _ _)) fun a hF => ?_
    refine s_alloc hF (by decide) zero24 fun w64 b6 a eb6 m6 B65 zb6 hF => ?_
    have sB65 := B65.size
    have hB := bt hB B65
    have m1 := m1.old B65
    have m2 := m2.old B65
    have hO := own_below hO B65
    have hP := hP.below B65
    refine s_putW hF rfl rfl (size_wide wide24) m6 rfl (one3 rfl) fun w66 m6 o67 => ?_
    have so67 := o67.size
    have hB := hB.trans (o67.below (by omega))
    have m1 := m1.only o67 (by omega)
    have m2 := m2.only o67 (by omega)
    have hO := own_only hO o67 (fun e => by have := hat _ e; omega)
    have hP := hP.only o67 (fun k (hk : b2 < k ∧ k ≠ o2 ∧ k < top) => by omega)
    refine s_end (hK49 _ _ ?_)
    refine wp_seq_k fun K50 hK50 => ?_
    refine wp_rs fun K51 hK51 => ?_
    refine hF.v (x_move rfl) fun a hF => ?_
    refine hF.v (gtrT (by omega) rfl rfl) fun a hF => ?_
    refine s_end (hK51 _ _ ?_)
    refine wp_if hF rfl ?_
    refine wp_region_lit ?_
    refine hF.v (x_move rfl) fun a hF => ?_
    refine hF.v (x_ldW wide24 m6 rfl rfl) fun a hF => ?_
    refine s_litG [lv (2, (i : Int), .slice none 0 0)] el22 hF (by decide) rfl (by simp [Value.cells, lc]) rfl (by decide) (by decide) fun w68 bs a ebs ms B69 zbs hF => ?_
    have sB69 := B69.size
    have hB := bt hB B69
    have m1 := m1.old B69
    have m2 := m2.old B69
    have hO := own_below hO B69
    have hP := hP.below B69
    have m6 := m6.old B69
    have ms : Blk w68 bs 24 (lc (2, (i : Int), .slice none 0 0)) := by simpa [Value.cells] using ms
    refine hF.v (x_build (vs := [(0, _), (1, _), (2, _)]) rfl (b24_012 _ _ _ _ _ _)) fun a hF => ?_
    refine s_putW hF rfl rfl (size_wide wide24) m6 rfl (one3 rfl) fun w70 m6 o71 => ?_
    have so71 := o71.size
    have hB := hB.trans (o71.below (by omega))
    have m1 := m1.only o71 (by omega)
    have m2 := m2.only o71 (by omega)
    have hO := own_only hO o71 (fun e => by have := hat _ e; omega)
    have hP := hP.only o71 (fun k (hk : b2 < k ∧ k ≠ o2 ∧ k < top) => by omega)
    have ms := ms.only o71 (by omega)
    refine s_end (hK50 _ _ ?_)
    refine wp_rs fun K52 hK52 => ?_
    refine hF.v (x_move rfl) fun a hF => ?_
    refine hF.v (geqT (by omega) rfl rfl) fun a hF => ?_
    refine s_end (hK52 _ _ ?_)
    refine wp_if hF rfl ?_
    refine wp_region_lit ?_
    refine hF.v (x_move rfl) fun a hF => ?_
    refine hF.v (x_ldW wide24 m6 rfl rfl) fun a hF => ?_
    refine s_litG [lv (3, gt ks i, .slice (some ⟨bs, 0, none⟩) 1 1)] el22 hF (by decide) rfl (by simp [Value.cells, lc]) rfl (by decide) (by decide) fun w72 bl a ebl ml B73 zbl hF => ?_
    have sB73 := B73.size
    have hB := bt hB B73
    have m1 := m1.old B73
    have m2 := m2.old B73
    have hO := own_below hO B73
    have hP := hP.below B73
    have ms := ms.old B73
    have ml : Blk w72 bl 24 (lc (3, gt ks i, .slice (some ⟨bs, 0, none⟩) 1 1)) := by simpa [Value.cells] using ml
    refine s_app1 (o := o2) el22 hF (by decide) rfl rfl hO ml rfl (one3 rfl) hat (by omega) (by omega) (by decide) (by omega) fun v3 w74 a o3 hOn hOatn how hsrc k75 hkeep hF => ?_
    have sk75 := k75.size
    have hB := k75.under hB (by omega)
    have m1 : Blk w74 b1 _ _ := (hkeep _ m1.lt hne).trans m1
    have m2 := m2.k2 k75 (by omega)
    have hP := hP.k2 k75 (fun k (hk : b2 < k ∧ k ≠ o2 ∧ k < top) => by omega)
    have ms := ms.k2 k75 (by omega)
    have hO := hOn
    have hO_at := hOatn
    have hneg : v3.ownBlock ≠ some b1 := fun h => by rcases hsrc b1 h with h | h; exact hne h; omega
    refine hF.v (x_assign rfl) fun a hF => ?_
    refine s_end (hK38 _ _ ?_)
    refine wp_region_lit ?_
    refine hF.v (x_addn (i + 1) (by omega) (by omega) rfl rfl) fun a hF => ?_
    refine hF.v (x_move rfl) fun a hF => ?_
    refine s_end (hK' _ _ (by omega) ⟨v3, o3, zs ++ [(3, gt ks i, .slice (some ⟨bs, 0, none⟩) 1 1)], by rw [fm3_app]; simpa using hO, hO_at, hneg, by omega, by rw [pts, hp1]; exact (hP.mono (fun k (hk : b2 < k ∧ k ≠ o2 ∧ k < top) => (by omega : _ ∧ _ ∧ _))).snoc (⟨rfl, by show gt ks i = _; omega, (2, (i : Int), .slice none 0 0), Rd.blk (k := 3) ms rfl, fun j h => by cases h; show b2 < bs ∧ bs ≠ o3 ∧ bs < _; have := ms.lt; omega, ⟨rfl, rfl, Rd.nil _ _⟩⟩), m1, m2, by omega, by omega, hB, hF.sub _ rfl⟩)
  ·
   obtain rfl : i = ks.length := by omega
   have hVp := Rd.own hO
   have hPp := hP.mono (B := fun k => w0.heap.size ≤ k ∧ k ≠ b2 ∧ k < wq.heap.size) (fun k (hk : b2 < k ∧ k ≠ o2 ∧ k < top) => (by omega : _ ∧ _ ∧ _))
   have hBP := Below.refl wq.heap.size wq
   have hppos := pts_pos (c := c) hTm
   have hPl := hPp.1
   obtain ⟨b8, off8, c8, z0, hve, hz0, hrow0⟩ := rd_row3 hVp (i := 0) (by omega)
   cases hve
   obtain ⟨p0, hp0e, hz0r⟩ := hPp.at hz0
   have h1z0 := hz0r.rs.one1
   clear hP
   refine wp_exit (hK34 _ _ ?_)
   refine wp_rs fun K53 hK53 => ?_
   refine hF.v (x_move rfl) fun a hF => ?_
   refine hF.v (x_ixa rfl rfl (m_ixsK 0 Try.underlying22 el22.size rfl (by omega))) fun a hF => ?_
   refine hF.v (x_ldA wide24 (hrow0 _ hBP) rfl rfl) fun a hF => ?_
   refine s_alloc hF (by decide) zero24 fun w76 b7 a eb7 m7 B77 zb7 hF => ?_
   have sB77 := B77.size
   have hB := bt hB B77
   have hBP := bt hBP B77
   have m2 := m2.old B77
   refine s_putW hF rfl rfl (size_wide wide24) m7 rfl (one_lc h1z0) fun w78 m7 o79 => ?_
   have so79 := o79.size
   have hB := hB.trans (o79.below (by omega))
   have hBP := hBP.trans (o79.below (by omega))
   have m2 := m2.only o79 (by omega)
   refine s_end (hK53 _ _ ?_)
   refine wp_seq_k fun K54 hK54 => ?_
   have hV2 := rd_tail hVp (by omega)
   obtain ⟨a2, ha2⟩ : ∃ a2, a2 = (if c8 = 1 then some (⟨b8, off8, none⟩ : Addr) else (some (⟨b8, off8, none⟩ : Addr)).map (·.add (1 * 3))) := ⟨_, rfl⟩
   rw [← ha2] at hV2
   have hdl : (zs.drop 1).length = zs.length - 1 := by rw [List.length_drop]
   have hb7 := m7.lt
   refine wp_rs fun K55 hK55 => ?_
   refine hF.v (x_move rfl) fun a hF => ?_
   refine hF.v (x_slice (v := .slice a2 (zs.length - 1) (c8 - 1)) (vlo := some (.int .i64 1)) (vhi := none) (vmx := none) rfl rfl rfl rfl (by rw [ha2]; exact m_sliceFK 1 Try.underlying22 el22.size rfl (by omega))) fun a hF => ?_
   refine hF.v (x_len Try.underlying22 rfl) fun a hF => ?_
   refine hF.v (x_move rfl) fun a hF => ?_
   refine s_end (hK55 _ _ ?_)
   refine wp_block ?_
   refine wp_up (zs.length - 1) (fun i a w => ∃ z, Blk w b7 24 (lc z) ∧ RSn w (fun k => w0.heap.size ≤ k ∧ k ≠ b2 ∧ k ≠ b7) ((((pts c ks ks.length).drop 1).take i).foldl SL.mx p0) z ∧ Blk w b2 24 [.int .i64 0, .int .i64 0, .slice none 0 0] ∧ Below w0.heap.size w0 w ∧ Below wq.heap.size wq w ∧ Fs 64 a [(54, .int .i64 (i : Int)), (53, .int .i64 ((zs.length - 1 : Nat) : Int)), (52, .slice a2 (zs.length - 1) (c8 - 1)), (7, .pointer (some ⟨b7, 0, none⟩)), (2, .pointer (some ⟨b2, 0, none⟩))]) ⟨z0, m7, (hz0r.below hBP).mono (fun k h => ⟨h.1, h.2.1, by have := h.2.2; omega⟩), m2, hB, hBP, hF.sub _ rfl⟩ ?_
   repeat clear hF
   clear hB hBP m7 m2
   rintro i a w hi ⟨z, m7, hz, m2, hB, hBP, hF⟩ K' hK'
   have sB := hB.size
   have sBP := hBP.size
   have hml := m7.lt
   obtain ⟨top2, htop2⟩ : ∃ h, h = w.heap.size := ⟨_, rfl⟩
   have hz := hz.valid.mono (B := fun k => w0.heap.size ≤ k ∧ k ≠ b2 ∧ k ≠ b7 ∧ k < top2) (fun k h => ⟨h.1.1, h.1.2.1, h.1.2.2, by have := h.2; omega⟩)
   refine wp_rs fun K56 hK56 => ?_
   refine hF.v (x_lss (b := decide (i < zs.length - 1)) (decide_eq_decide.2 (by omega)) rfl rfl) fun a hF => ?_
   refine s_end (hK56 _ _ ?_)
   refine wp_seq_k fun K57 hK57 => ?_
   refine wp_iff hF rfl (fun hc55 => ?_) (fun hc55 => ?_)
   ·
    obtain ⟨b9, off9, c9, y, hve, hy, hrow⟩ := rd_row3 hV2 (i := i) (by omega)
    rw [hdl] at hve
    cases hve
    have hy1 : zs[i + 1]? = some y := by rw [List.getElem?_drop, Nat.add_comm] at hy; exact hy
    obtain ⟨q, hq1, hyr⟩ := hPp.at hy1
    have hq2 : ((pts c ks ks.length).drop 1)[i]? = some q := by rw [List.getElem?_drop, Nat.add_comm]; exact hq1
    have h1y := hyr.rs.one1
    have h1z := hz.rs.one1
    refine wp_skip (hK57 _ _ ?_)
    refine wp_seq_k fun K58 hK58 => ?_
    refine wp_block ?_
    refine wp_rs fun K59 hK59 => ?_
    refine hF.v (x_ixa rfl rfl (m_ixsK i Try.underlying22 el22.size rfl (by omega))) fun a hF => ?_
    refine hF.v (x_ldA wide24 (hrow _ hBP) rfl rfl) fun a hF => ?_
    refine s_alloc hF (by decide) zero24 fun w80 b9 a eb9 m9 B81 zb9 hF => ?_
    have sB81 := B81.size
    have hB := bt hB B81
    have hBP := bt hBP B81
    have m7 := m7.old B81
    have m2 := m2.old B81
    have hz := hz.below B81
    refine s_putW hF rfl rfl (size_wide wide24) m9 rfl (one_lc h1y) fun w82 m9 o83 => ?_
    have so83 := o83.size
    have hB := hB.trans (o83.below (by omega))
    have hBP := hBP.trans (o83.below (by omega))
    have m7 := m7.only o83 (by omega)
    have m2 := m2.only o83 (by omega)
    have hz := hz.only o83 (fun k (hk : w0.heap.size ≤ k ∧ k ≠ b2 ∧ k ≠ b7 ∧ k < top2) => by omega)
    refine s_end (hK59 _ _ ?_)
    refine wp_region_lit ?_
    refine hF.v (x_ldW wide24 m7 rfl rfl) fun a hF => ?_
    refine hF.v (x_ldW wide24 m9 rfl rfl) fun a hF => ?_
    refine s_litG [lv z, lv y] el22 hF (by decide) rfl (by simp [Value.cells, lc]) rfl (by decide) (by decide) fun w84 bl a ebl ml B85 zbl hF => ?_
    have sB85 := B85.size
    have hB := bt hB B85
    have hBP := bt hBP B85
    have m7 := m7.old B85
    have m2 := m2.old B85
    have hz := hz.below B85
    refine hF.v (x_build (vs := [(0, _), (2, _)]) rfl (b24_02 _ _ _ _ _)) fun a hF => ?_
    refine s_putW (vs := lc (4, 0, .slice (some ⟨bl, 0, none⟩) 2 2)) hF rfl rfl (size_wide wide24) m7 rfl (one3 rfl) fun w86 m7 o87 => ?_
    have so87 := o87.size
    have hB := hB.trans (o87.below (by omega))
    have hBP := hBP.trans (o87.below (by omega))
    have m2 := m2.only o87 (by omega)
    have hz := hz.only o87 (fun k (hk : w0.heap.size ≤ k ∧ k ≠ b2 ∧ k ≠ b7 ∧ k < top2) => by omega)
    have ml := ml.only o87 (by omega)
    have hz : RSn w86 (fun k => w0.heap.size ≤ k ∧ k ≠ b2 ∧ k ≠ b7) (.mx ((((pts c ks ks.length).drop 1).take i).foldl SL.mx p0) q) (4, 0, .slice (some ⟨bl, 0, none⟩) 2 2) := ⟨rfl, z, y, Rd.blk (k := 3) (by simpa [Value.cells] using ml) (by simp [lc]), fun j h => by cases h; show _ ≤ bl ∧ bl ≠ b2 ∧ bl ≠ b7; omega, hz.mono (fun k h => ⟨h.1, h.2.1, h.2.2.1⟩), (hyr.below hBP).mono (fun k h => ⟨h.1, h.2.1, by have := h.2.2; omega⟩)⟩
    refine s_end (hK58 _ _ ?_)
    refine wp_region_lit ?_
    refine hF.v (x_addn (i + 1) (by omega) (by omega) rfl rfl) fun a hF => ?_
    refine hF.v (x_move rfl) fun a hF => ?_
    refine s_end (hK' _ _ (by omega) ⟨_, m7, by rw [fold_snoc hq2]; exact hz, m2, hB, hBP, hF.sub _ rfl⟩)
   ·
    have hPl2 := hPp.1
    have hall : ((pts c ks ks.length).drop 1).take i = (pts c ks ks.length).drop 1 := List.take_of_length_le (by rw [List.length_drop]; omega)
    rw [hall, ← levF_eq rfl hp0e] at hz
    have h1z := hz.rs.one1
    refine wp_exit (hK54 _ _ ?_)
    refine wp_rs fun K60 hK60 => ?_
    refine hF.v (x_ldW wide24 m7 rfl rfl) fun a hF => ?_
    refine s_putW hF rfl rfl (size_wide wide24) m2 rfl (one_lc h1z) fun w88 m2 o89 => ?_
    have so89 := o89.size
    have hB := hB.trans (o89.below (by omega))
    have hz := hz.only o89 (fun k (hk : w0.heap.size ≤ k ∧ k ≠ b2 ∧ k ≠ b7 ∧ k < top2) => by omega)
    refine s_end (hK60 _ _ ?_)
    refine wp_ret (res_cell hF rfl rfl m2 wide24 ⟨_, rfl, ⟨z, rfl, hz.mono (fun k h => h.1)⟩, hB⟩)
 ·
  have hp0 : pts c ks 0 = [] := by rw [pts, if_neg]; rintro (h | h); exact h hq.1; exact hq.2 (by rw [h]; rfl)
  refine wp_rs fun K61 hK61 => ?_
  refine hF.v (x_fa0 fa36_0 rfl) fun a hF => ?_
  refine hF.v (x_load rfl (m_load flat3 (m1.cell (j := 0) rfl))) fun a hF => ?_
  refine hF.v (gtrF (by omega) rfl rfl) fun a hF => ?_
  refine hF.v (x_move rfl) fun a hF => ?_
  refine s_grd 13 hF rfl rfl rfl ?_
  refine hF.v (x_fa0 fa36_1 rfl) fun a hF => ?_
  refine s_grd 13 hF rfl rfl rfl ?_
  refine hF.v (x_load rfl (m_load flat29 (m1.cell (j := 1) rfl))) fun a hF => ?_
  refine s_grd 13 hF rfl rfl rfl ?_
  refine hF.v (x_len Try.underlying92 rfl) fun a hF => ?_
  refine s_grd 13 hF rfl rfl rfl ?_
  refine hF.v (eqlF (by omega) rfl rfl) fun a hF => ?_
  refine hF.v (x_pick (b := false) rfl rfl) fun a hF => ?_
  refine s_end (hK61 _ _ ?_)
  refine wp_if hF rfl ?_
  refine wp_skip (hK3 _ _ ?_)
  refine wp_seq_k fun K62 hK62 => ?_
  refine wp_rs fun K63 hK63 => ?_
  refine hF.v (x_fa0 fa36_1 rfl) fun a hF => ?_
  refine hF.v (x_load rfl (m_load flat29 (m1.cell (j := 1) rfl))) fun a hF => ?_
  refine hF.v (x_len Try.underlying92 rfl) fun a hF => ?_
  refine hF.v (x_move rfl) fun a hF => ?_
  refine s_end (hK63 _ _ ?_)
  refine wp_block ?_
  have hJ : ∃ v' o' zs, w4.ownsRow w0.heap.size 24 3 v' zs.length (zs.flatMap lc) ∧ (∀ j, v'.ownBlock = some j → j = o') ∧ v'.ownBlock ≠ some b1 ∧ (w0.heap.size ≤ o' ∧ o' < w4.heap.size) ∧ PL w4 (fun k => b2 < k ∧ k ≠ o' ∧ k < w4.heap.size) zs (pts c ks 0) ∧ Value.slice none 0 0 = v' ∧ (o' = b1 ∨ b2 < o') := ⟨_, b1, [], World.ownsRow_nil _ _ _ _, (fun j h => by cases h), (fun h => by cases h), by have := m1.lt; omega, by rw [hp0]; exact PL.nil, rfl, .inl rfl⟩
  obtain ⟨vj, oj, zj, hj1, hj2, hj3, hj4, hj5, hj6, hj7⟩ := hJ
  rw [hj6] at hF
  refine wp_up ks.length (fun i a w => ∃ v' o' zs, w.ownsRow w0.heap.size 24 3 v' zs.length (zs.flatMap lc) ∧ (∀ j, v'.ownBlock = some j → j = o') ∧ v'.ownBlock ≠ some b1 ∧ (w0.heap.size ≤ o' ∧ o' < w.heap.size) ∧ PL w (fun k => b2 < k ∧ k ≠ o' ∧ k < w.heap.size) zs (pts c ks i) ∧ Blk w b1 94 [.int .i64 c, .slice av ks.length cv] ∧ Blk w b2 24 [.int .i64 0, .int .i64 0, .slice none 0 0] ∧ b2 < o' + b2 + 1 ∧ (o' = b1 ∨ b2 < o') ∧ Below w0.heap.size w0 w ∧ Fs 64 a [(28, .int .i64 (i : Int)), (27, .int .i64 (ks.length : Int)), (26, .slice av ks.length cv), (3, v'), (2, .pointer (some ⟨b2, 0, none⟩))]) ⟨vj, oj, zj, hj1, hj2, hj3, hj4, hj5, m1, m2, by omega, hj7, hB, hF.sub _ rfl⟩ ?_
  repeat clear hF
  clear hB m1 m2
  rintro i a wq hi ⟨vv, o2, zs, hO, hat, hne, hlo, hP, m1, m2, _, ho2b, hB, hF⟩ K' hK'
  have sB := hB.size
  have hm1 := m1.lt
  have hm2 := m2.lt
  obtain ⟨top, htop⟩ : ∃ h, h = wq.heap.size := ⟨_, rfl⟩
  rw [← htop] at hP
  have hPl := hP.1
  have hple := pts_le c ks i
  refine wp_rs fun K64 hK64 => ?_
  refine hF.v (x_lss rfl rfl rfl) fun a hF => ?_
  refine s_end (hK64 _ _ ?_)
  refine wp_seq_k fun K65 hK65 => ?_
  refine wp_iff hF rfl (fun hc29 => ?_) (fun hc29 => ?_)
  ·
   have hgi := hLo.gt i
   obtain ⟨b6, off6, c6, hve, hrowk⟩ := rd_rowI hV (i := i) (by omega)
   cases hve
   refine wp_skip (hK65 _ _ ?_)
   refine wp_seq_k fun K66 hK66 => ?_
   refine wp_block ?_
   refine wp_rs fun K67 hK67 => ?_
   refine hF.v (x_move rfl) fun a hF => ?_
   refine hF.v (x_ixa rfl rfl (m_ixs i Try.underlying92 el29.size rfl (by omega))) fun a hF => ?_
   refine hF.v (x_load rfl (m_load flat3 (hrowk _ hB))) fun a hF => ?_
   refine hF.v (x_assign rfl) fun a hF => ?_
   refine hF.v (x_assign rfl) fun a hF => ?_
   refine s_end (hK67 _ _ ?_)
   rcases (show gt ks i = -1 ∨ gt ks i = 0 ∨ 0 < gt ks i by omega) with hg | hg | hg
   ·
    have hp1 : part1 i (gt ks i) = [] := by rw [part1, if_pos (by omega)]
    refine wp_rs fun K69 hK69 => ?_
    refine hF.v (x_move rfl) fun a hF => ?_
    refine hF.v (x_build (vs := [(0, _), (1, _)]) rfl (b24_01 _ _ _)) fun a hF => ?_
    refine s_alloc hF (by decide) zero24 fun w90 b6 a eb6 m6 B91 zb6 hF => ?_
    have sB91 := B91.size
    have hB := bt hB B91
    have m1 := m1.old B91
    have m2 := m2.old B91
    have hO := own_below hO B91
    have hP := hP.below B91
    refine s_putW hF rfl rfl (size_wide wide24) m6 rfl (one3 rfl) fun w92 m6 o93 => ?_
    have so93 := o93.size
    have hB := hB.trans (o93.below (by omega))
    have m1 := m1.only o93 (by omega)
    have m2 := m2.only o93 (by omega)
    have hO := own_only hO o93 (fun e => by have := hat _ e; omega)
    have hP := hP.only o93 (fun k (hk : b2 < k ∧ k ≠ o2 ∧ k < top) => by omega)
    refine s_end (hK69 _ _ ?_)
    refine wp_seq_k fun K70 hK70 => ?_
    refine wp_rs fun K71 hK71 => ?_
    refine hF.v (x_move rfl) fun a hF => ?_
    refine hF.v (gtrF (by omega) rfl rfl) fun a hF => ?_
    refine s_end (hK71 _ _ ?_)
    refine wp_if hF rfl ?_
    refine wp_skip (hK70 _ _ ?_)
    refine wp_rs fun K72 hK72 => ?_
    refine hF.v (x_move rfl) fun a hF => ?_
    refine hF.v (geqF (by omega) rfl rfl) fun a hF => ?_
    refine s_end (hK72 _ _ ?_)
    refine wp_if hF rfl ?_
    refine wp_skip (hK66 _ _ ?_)
    refine wp_region_lit ?_
    refine hF.v (x_addn (i + 1) (by omega) (by omega) rfl rfl) fun a hF => ?_
    refine hF.v (x_move rfl) fun a hF => ?_
    refine s_end (hK' _ _ (by omega) ⟨vv, o2, zs, hO, hat, hne, by omega, by rw [pts, hp1, List.append_nil]; exact hP.mono (fun k (hk : b2 < k ∧ k ≠ o2 ∧ k < top) => (by omega : _ ∧ _ ∧ _)), m1, m2, by omega, ho2b, hB, hF.sub _ rfl⟩)
   ·
    have hp1 : part1 i (gt ks i) = [.var i] := by rw [part1, if_neg (by omega), if_pos hg]
    refine wp_rs fun K73 hK73 => ?_
    refine hF.v (x_move rfl) fun a hF => ?_
    refine hF.v (x_build (vs := [(0, _), (1, _)]) rfl (b24_01 _ _ _)) fun a hF => ?_
    refine s_alloc hF (by decide) zero24 fun w94 b6 a eb6 m6 B95 zb6 hF => ?_
    have sB95 := B95.size
    have hB := bt hB B95
    have m1 := m1.old B95
    have m2 := m2.old B95
    have hO := own_below hO B95
    have hP := hP.below B95
    refine s_putW hF rfl rfl (size_wide wide24) m6 rfl (one3 rfl) fun w96 m6 o97 => ?_
    have so97 := o97.size
    have hB := hB.trans (o97.below (by omega))
    have m1 := m1.only o97 (by omega)
    have m2 := m2.only o97 (by omega)
    have hO := own_only hO o97 (fun e => by have := hat _ e; omega)
    have hP := hP.only o97 (fun k (hk : b2 < k ∧ k ≠ o2 ∧ k < top) => by omega)
    refine s_end (hK73 _ _ ?_)
    refine wp_seq_k fun K74 hK74 => ?_
    refine wp_rs fun K75 hK75 => ?_
    refine hF.v (x_move rfl) fun a hF => ?_
    refine hF.v (gtrF (by omega) rfl rfl) fun a hF => ?_
    refine s_end (hK75 _ _ ?_)
    refine wp_if hF rfl ?_
    refine wp_skip (hK74 _ _ ?_)
    refine wp_rs fun K76 hK76 => ?_
    refine hF.v (x_move rfl) fun a hF => ?_
    refine hF.v (geqT (by omega) rfl rfl) fun a hF => ?_
    refine s_end (hK76 _ _ ?_)
    refine wp_if hF rfl ?_
    refine wp_region_lit ?_
    refine hF.v (x_move rfl) fun a hF => ?_
    refine hF.v (x_ldW wide24 m6 rfl rfl) fun a hF => ?_
    refine s_litG [lv (2, (i : Int), .slice none 0 0)] el22 hF (by decide) rfl (by simp [Value.cells, lc]) rfl (by decide) (by decide) fun w98 bl a ebl ml B99 zbl hF => ?_
    have sB99 := B99.size
    have hB := bt hB B99
    have m1 := m1.old B99
    have m2 := m2.old B99
    have hO := own_below hO B99
    have hP := hP.below B99
    have ml : Blk w98 bl 24 (lc (2, (i : Int), .slice none 0 0)) := by simpa [Value.cells] using ml
    refine s_app1 (o := o2) el22 hF (by decide) rfl rfl hO ml rfl (one3 rfl) hat (by omega) (by omega) (by decide) (by omega) fun v3 w100 a o3 hOn hOatn how hsrc k101 hkeep hF => ?_
    have sk101 := k101.size
    have hB := k101.under hB (by omega)
    have m1 : Blk w100 b1 _ _ := (hkeep _ m1.lt hne).trans m1
    have m2 := m2.k2 k101 (by omega)
    have hP := hP.k2 k101 (fun k (hk : b2 < k ∧ k ≠ o2 ∧ k < top) => by omega)
    have hO := hOn
    have hO_at := hOatn
    have hneg : v3.ownBlock ≠ some b1 := fun h => by rcases hsrc b1 h with h | h; exact hne h; omega
    refine hF.v (x_assign rfl) fun a hF => ?_
    refine s_end (hK66 _ _ ?_)
    refine wp_region_lit ?_
    refine hF.v (x_addn (i + 1) (by omega) (by omega) rfl rfl) fun a hF => ?_
    refine hF.v (x_move rfl) fun a hF => ?_
    refine s_end (hK' _ _ (by omega) ⟨v3, o3, zs ++ [(2, (i : Int), .slice none 0 0)], by rw [fm3_app]; simpa using hO, hO_at, hneg, by omega, by rw [pts, hp1]; exact (hP.mono (fun k (hk : b2 < k ∧ k ≠ o2 ∧ k < top) => (by omega : _ ∧ _ ∧ _))).snoc (⟨rfl, rfl, Rd.nil _ _⟩), m1, m2, by omega, by omega, hB, hF.sub _ rfl⟩)
   ·
    have hp1 : part1 i (gt ks i) = [.succ (gt ks i).toNat (.var i)] := by rw [part1, if_neg (by omega), if_neg (by omega)]
    refine wp_rs fun K77 hK77 => ?_
    refine hF.v (x_move rfl) fun a hF => ?_
    refine hF.v (x_build (vs := [(0, _), (1, _)]) rfl (b24_01 _ _ _)) fun a hF => ?_
    refine s_alloc hF (by decide) zero24 fun w102 b6 a eb6 m6 B103 zb6 hF => ?_
    have sB103 := B103.size
    have hB := bt hB B103
    have m1 := m1.old B103
    have m2 := m2.old B103
    have hO := own_below hO B103
    have hP := hP.below B103
    refine s_putW hF rfl rfl (size_wide wide24) m6 rfl (one3 rfl) fun w104 m6 o105 => ?_
    have so105 := o105.size
    have hB := hB.trans (o105.below (by omega))
    have m1 := m1.only o105 (by omega)
    have m2 := m2.only o105 (by omega)
    have hO := own_only hO o105 (fun e => by have := hat _ e; omega)
    have hP := hP.only o105 (fun k (hk : b2 < k ∧ k ≠ o2 ∧ k < top) => by omega)
    refine s_end (hK77 _ _ ?_)
    refine wp_seq_k fun K78 hK78 => ?_
    refine wp_rs fun K79 hK79 => ?_
    refine hF.v (x_move rfl) fun a hF => ?_
    refine hF.v (gtrT (by omega) rfl rfl) fun a hF => ?_
    refine s_end (hK79 _ _ ?_)
    refine wp_if hF rfl ?_
    refine wp_region_lit ?_
    refine hF.v (x_move rfl) fun a hF => ?_
    refine hF.v (x_ldW wide24 m6 rfl rfl) fun a hF => ?_
    refine s_litG [lv (2, (i : Int), .slice none 0 0)] el22 hF (by decide) rfl (by simp [Value.cells, lc]) rfl (by decide) (by decide) fun w106 bs a ebs ms B107 zbs hF => ?_
    have sB107 := B107.size
    have hB := bt hB B107
    have m1 := m1.old B107
    have m2 := m2.old B107
    have hO := own_below hO B107
    have hP := hP.below B107
    have m6 := m6.old B107
    have ms : Blk w106 bs 24 (lc (2, (i : Int), .slice none 0 0)) := by simpa [Value.cells] using ms
    refine hF.v (x_build (vs := [(0, _), (1, _), (2, _)]) rfl (b24_012 _ _ _ _ _ _)) fun a hF => ?_
    refine s_putW hF rfl rfl (size_wide wide24) m6 rfl (one3 rfl) fun w108 m6 o109 => ?_
    have so109 := o109.size
    have hB := hB.trans (o109.below (by omega))
    have m1 := m1.only o109 (by omega)
    have m2 := m2.only o109 (by omega)
    have hO := own_only hO o109 (fun e => by have := hat _ e; omega)
    have hP := hP.only o109 (fun k (hk : b2 < k ∧ k ≠ o2 ∧ k < top) => by omega)
    have ms := ms.only o109 (by omega)
    refine s_end (hK78 _ _ ?_)
    refine wp_rs fun K80 hK80 => ?_
    refine hF.v (x_move rfl) fun a hF => ?_
    refine hF.v (geqT (by omega) rfl rfl) fun a hF => ?_
    refine s_end (hK80 _ _ ?_)
    refine wp_if hF rfl ?_
    refine wp_region_lit ?_
    refine hF.v (x_move rfl) fun a hF => ?_
    refine hF.v (x_ldW wide24 m6 rfl rfl) fun a hF => ?_
    refine s_litG [lv (3, gt ks i, .slice (some ⟨bs, 0, none⟩) 1 1)] el22 hF (by decide) rfl (by simp [Value.cells, lc]) rfl (by decide) (by decide) fun w110 bl a ebl ml B111 zbl hF => ?_
    have sB111 := B111.size
    have hB := bt hB B111
    have m1 := m1.old B111
    have m2 := m2.old B111
    have hO := own_below hO B111
    have hP := hP.below B111
    have ms := ms.old B111
    have ml : Blk w110 bl 24 (lc (3, gt ks i, .slice (some ⟨bs, 0, none⟩) 1 1)) := by simpa [Value.cells] using ml
    refine s_app1 (o := o2) el22 hF (by decide) rfl rfl hO ml rfl (one3 rfl) hat (by omega) (by omega) (by decide) (by omega) fun v3 w112 a o3 hOn hOatn how hsrc k113 hkeep hF => ?_
    have sk113 := k113.size
    have hB := k113.under hB (by omega)
    have m1 : Blk w112 b1 _ _ := (hkeep _ m1.lt hne).trans m1
    have m2 := m2.k2 k113 (by omega)
    have hP := hP.k2 k113 (fun k (hk : b2 < k ∧ k ≠ o2 ∧ k < top) => by omega)
    have ms := ms.k2 k113 (by omega)
    have hO := hOn
    have hO_at := hOatn
    have hneg : v3.ownBlock ≠ some b1 := fun h => by rcases hsrc b1 h with h | h; exact hne h; omega
    refine hF.v (x_assign rfl) fun a hF => ?_
    refine s_end (hK66 _ _ ?_)
    refine wp_region_lit ?_
    refine hF.v (x_addn (i + 1) (by omega) (by omega) rfl rfl) fun a hF => ?_
    refine hF.v (x_move rfl) fun a hF => ?_
    refine s_end (hK' _ _ (by omega) ⟨v3, o3, zs ++ [(3, gt ks i, .slice (some ⟨bs, 0, none⟩) 1 1)], by rw [fm3_app]; simpa using hO, hO_at, hneg, by omega, by rw [pts, hp1]; exact (hP.mono (fun k (hk : b2 < k ∧ k ≠ o2 ∧ k < top) => (by omega : _ ∧ _ ∧ _))).snoc (⟨rfl, by show gt ks i = _; omega, (2, (i : Int), .slice none 0 0), Rd.blk (k := 3) ms rfl, fun j h => by cases h; show b2 < bs ∧ bs ≠ o3 ∧ bs < _; have := ms.lt; omega, ⟨rfl, rfl, Rd.nil _ _⟩⟩), m1, m2, by omega, by omega, hB, hF.sub _ rfl⟩)
  ·
   obtain rfl : i = ks.length := by omega
   have hVp := Rd.own hO
   have hPp := hP.mono (B := fun k => w0.heap.size ≤ k ∧ k ≠ b2 ∧ k < wq.heap.size) (fun k (hk : b2 < k ∧ k ≠ o2 ∧ k < top) => (by omega : _ ∧ _ ∧ _))
   have hBP := Below.refl wq.heap.size wq
   have hppos := pts_pos (c := c) hTm
   have hPl := hPp.1
   obtain ⟨b8, off8, c8, z0, hve, hz0, hrow0⟩ := rd_row3 hVp (i := 0) (by omega)
   cases hve
   obtain ⟨p0, hp0e, hz0r⟩ := hPp.at hz0
   have h1z0 := hz0r.rs.one1
   clear hP
   refine wp_exit (hK62 _ _ ?_)
   refine wp_rs fun K81 hK81 => ?_
   refine hF.v (x_move rfl) fun a hF => ?_
   refine hF.v (x_ixa rfl rfl (m_ixsK 0 Try.underlying22 el22.size rfl (by omega))) fun a hF => ?_
   refine hF.v (x_ldA wide24 (hrow0 _ hBP) rfl rfl) fun a hF => ?_
   refine s_alloc hF (by decide) zero24 fun w114 b7 a eb7 m7 B115 zb7 hF => ?_
   have sB115 := B115.size
   have hB := bt hB B115
   have hBP := bt hBP B115
   have m2 := m2.old B115
   refine s_putW hF rfl rfl (size_wide wide24) m7 rfl (one_lc h1z0) fun w116 m7 o117 => ?_
   have so117 := o117.size
   have hB := hB.trans (o117.below (by omega))
   have hBP := hBP.trans (o117.below (by omega))
   have m2 := m2.only o117 (by omega)
   refine s_end (hK81 _ _ ?_)
   refine wp_seq_k fun K82 hK82 => ?_
   have hV2 := rd_tail hVp (by omega)
   obtain ⟨a2, ha2⟩ : ∃ a2, a2 = (if c8 = 1 then some (⟨b8, off8, none⟩ : Addr) else (some (⟨b8, off8, none⟩ : Addr)).map (·.add (1 * 3))) := ⟨_, rfl⟩
   rw [← ha2] at hV2
   have hdl : (zs.drop 1).length = zs.length - 1 := by rw [List.length_drop]
   have hb7 := m7.lt
   refine wp_rs fun K83 hK83 => ?_
   refine hF.v (x_move rfl) fun a hF => ?_
   refine hF.v (x_slice (v := .slice a2 (zs.length - 1) (c8 - 1)) (vlo := some (.int .i64 1)) (vhi := none) (vmx := none) rfl rfl rfl rfl (by rw [ha2]; exact m_sliceFK 1 Try.underlying22 el22.size rfl (by omega))) fun a hF => ?_
   refine hF.v (x_len Try.underlying22 rfl) fun a hF => ?_
   refine hF.v (x_move rfl) fun a hF => ?_
   refine s_end (hK83 _ _ ?_)
   refine wp_block ?_
   refine wp_up (zs.length - 1) (fun i a w => ∃ z, Blk w b7 24 (lc z) ∧ RSn w (fun k => w0.heap.size ≤ k ∧ k ≠ b2 ∧ k ≠ b7) ((((pts c ks ks.length).drop 1).take i).foldl SL.mx p0) z ∧ Blk w b2 24 [.int .i64 0, .int .i64 0, .slice none 0 0] ∧ Below w0.heap.size w0 w ∧ Below wq.heap.size wq w ∧ Fs 64 a [(54, .int .i64 (i : Int)), (53, .int .i64 ((zs.length - 1 : Nat) : Int)), (52, .slice a2 (zs.length - 1) (c8 - 1)), (7, .pointer (some ⟨b7, 0, none⟩)), (2, .pointer (some ⟨b2, 0, none⟩))]) ⟨z0, m7, (hz0r.below hBP).mono (fun k h => ⟨h.1, h.2.1, by have := h.2.2; omega⟩), m2, hB, hBP, hF.sub _ rfl⟩ ?_
   repeat clear hF
   clear hB hBP m7 m2
   rintro i a w hi ⟨z, m7, hz, m2, hB, hBP, hF⟩ K' hK'
   have sB := hB.size
   have sBP := hBP.size
   have hml := m7.lt
   obtain ⟨top2, htop2⟩ : ∃ h, h = w.heap.size := ⟨_, rfl⟩
   have hz := hz.valid.mono (B := fun k => w0.heap.size ≤ k ∧ k ≠ b2 ∧ k ≠ b7 ∧ k < top2) (fun k h => ⟨h.1.1, h.1.2.1, h.1.2.2, by have := h.2; omega⟩)
   refine wp_rs fun K84 hK84 => ?_
   refine hF.v (x_lss (b := decide (i < zs.length - 1)) (decide_eq_decide.2 (by omega)) rfl rfl) fun a hF => ?_
   refine s_end (hK84 _ _ ?_)
   refine wp_seq_k fun K85 hK85 => ?_
   refine wp_iff hF rfl (fun hc55 => ?_) (fun hc55 => ?_)
   ·
    obtain ⟨b9, off9, c9, y, hve, hy, hrow⟩ := rd_row3 hV2 (i := i) (by omega)
    rw [hdl] at hve
    cases hve
    have hy1 : zs[i + 1]? = some y := by rw [List.getElem?_drop, Nat.add_comm] at hy; exact hy
    obtain ⟨q, hq1, hyr⟩ := hPp.at hy1
    have hq2 : ((pts c ks ks.length).drop 1)[i]? = some q := by rw [List.getElem?_drop, Nat.add_comm]; exact hq1
    have h1y := hyr.rs.one1
    have h1z := hz.rs.one1
    refine wp_skip (hK85 _ _ ?_)
    refine wp_seq_k fun K86 hK86 => ?_
    refine wp_block ?_
    refine wp_rs fun K87 hK87 => ?_
    refine hF.v (x_ixa rfl rfl (m_ixsK i Try.underlying22 el22.size rfl (by omega))) fun a hF => ?_
    refine hF.v (x_ldA wide24 (hrow _ hBP) rfl rfl) fun a hF => ?_
    refine s_alloc hF (by decide) zero24 fun w118 b9 a eb9 m9 B119 zb9 hF => ?_
    have sB119 := B119.size
    have hB := bt hB B119
    have hBP := bt hBP B119
    have m7 := m7.old B119
    have m2 := m2.old B119
    have hz := hz.below B119
    refine s_putW hF rfl rfl (size_wide wide24) m9 rfl (one_lc h1y) fun w120 m9 o121 => ?_
    have so121 := o121.size
    have hB := hB.trans (o121.below (by omega))
    have hBP := hBP.trans (o121.below (by omega))
    have m7 := m7.only o121 (by omega)
    have m2 := m2.only o121 (by omega)
    have hz := hz.only o121 (fun k (hk : w0.heap.size ≤ k ∧ k ≠ b2 ∧ k ≠ b7 ∧ k < top2) => by omega)
    refine s_end (hK87 _ _ ?_)
    refine wp_region_lit ?_
    refine hF.v (x_ldW wide24 m7 rfl rfl) fun a hF => ?_
    refine hF.v (x_ldW wide24 m9 rfl rfl) fun a hF => ?_
    refine s_litG [lv z, lv y] el22 hF (by decide) rfl (by simp [Value.cells, lc]) rfl (by decide) (by decide) fun w122 bl a ebl ml B123 zbl hF => ?_
    have sB123 := B123.size
    have hB := bt hB B123
    have hBP := bt hBP B123
    have m7 := m7.old B123
    have m2 := m2.old B123
    have hz := hz.below B123
    refine hF.v (x_build (vs := [(0, _), (2, _)]) rfl (b24_02 _ _ _ _ _)) fun a hF => ?_
    refine s_putW (vs := lc (4, 0, .slice (some ⟨bl, 0, none⟩) 2 2)) hF rfl rfl (size_wide wide24) m7 rfl (one3 rfl) fun w124 m7 o125 => ?_
    have so125 := o125.size
    have hB := hB.trans (o125.below (by omega))
    have hBP := hBP.trans (o125.below (by omega))
    have m2 := m2.only o125 (by omega)
    have hz := hz.only o125 (fun k (hk : w0.heap.size ≤ k ∧ k ≠ b2 ∧ k ≠ b7 ∧ k < top2) => by omega)
    have ml := ml.only o125 (by omega)
    have hz : RSn w124 (fun k => w0.heap.size ≤ k ∧ k ≠ b2 ∧ k ≠ b7) (.mx ((((pts c ks ks.length).drop 1).take i).foldl SL.mx p0) q) (4, 0, .slice (some ⟨bl, 0, none⟩) 2 2) := ⟨rfl, z, y, Rd.blk (k := 3) (by simpa [Value.cells] using ml) (by simp [lc]), fun j h => by cases h; show _ ≤ bl ∧ bl ≠ b2 ∧ bl ≠ b7; omega, hz.mono (fun k h => ⟨h.1, h.2.1, h.2.2.1⟩), (hyr.below hBP).mono (fun k h => ⟨h.1, h.2.1, by have := h.2.2; omega⟩)⟩
    refine s_end (hK86 _ _ ?_)
    refine wp_region_lit ?_
    refine hF.v (x_addn (i + 1) (by omega) (by omega) rfl rfl) fun a hF => ?_
    refine hF.v (x_move rfl) fun a hF => ?_
    refine s_end (hK' _ _ (by omega) ⟨_, m7, by rw [fold_snoc hq2]; exact hz, m2, hB, hBP, hF.sub _ rfl⟩)
   ·
    have hPl2 := hPp.1
    have hall : ((pts c ks ks.length).drop 1).take i = (pts c ks ks.length).drop 1 := List.take_of_length_le (by rw [List.length_drop]; omega)
    rw [hall, ← levF_eq rfl hp0e] at hz
    have h1z := hz.rs.one1
    refine wp_exit (hK82 _ _ ?_)
    refine wp_rs fun K88 hK88 => ?_
    refine hF.v (x_ldW wide24 m7 rfl rfl) fun a hF => ?_
    refine s_putW hF rfl rfl (size_wide wide24) m2 rfl (one_lc h1z) fun w126 m2 o127 => ?_
    have so127 := o127.size
    have hB := hB.trans (o127.below (by omega))
    have hz := hz.only o127 (fun k (hk : w0.heap.size ≤ k ∧ k ≠ b2 ∧ k ≠ b7 ∧ k < top2) => by omega)
    refine s_end (hK88 _ _ ?_)
    refine wp_ret (res_cell hF rfl rfl m2 wide24 ⟨_, rfl, ⟨z, rfl, hz.mono (fun k h => h.1)⟩, hB⟩)
end Go.Proofs.Ytbhhbfdoadecgaa

namespace Go.Proofs.Ytbhhbfdoadecgaa
open Go.RowKit Go.Shelf
set_option linter.unusedVariables false
set_option linter.unusedSimpArgs false

def SL.kd : SL → Int
 | .num _ => 1
 | .var _ => 2
 | .succ _ _ => 3
 | .mx _ _ => 4
def SL.nn : SL → Int
 | .num n => n
 | .var n => n
 | .succ n _ => n
 | .mx _ _ => 0
theorem RS.kd {W : World} {s : SL} {k n : Int} {v : Value} (h : RS W s (k, n, v)) : k = s.kd ∧ (k ≠ 4 → n = s.nn) := by
 cases s with
 | num m => exact ⟨h.1, fun _ => h.2.1⟩
 | var m => exact ⟨h.1, fun _ => h.2.1⟩
 | succ m a => exact ⟨h.1, fun _ => h.2.1⟩
 | mx a b => exact ⟨h.1, fun h4 => absurd h.1 h4⟩
theorem SL.kids_sum (s : SL) : (s.kids.map SL.size).sum + 1 = s.size := by cases s <;> simp [SL.kids, SL.size]
end Go.Proofs.Ytbhhbfdoadecgaa

namespace Go.Proofs.Ytbhhbfdoadecgaa
open Go.RowKit Go.Shelf
set_option linter.unusedVariables false
set_option linter.unusedSimpArgs false

/-- n more than s. -/
def plusS (n : Nat) : SL → SL
 | .succ m a => .succ (cut (n + m)).toNat a
 | s => .succ n s

def awS : SL := .mx (.num 3) (.succ 1 (.var 0))
end Go.Proofs.Ytbhhbfdoadecgaa

namespace Go.Proofs.Ytbhhbfdoadecgaa
set_option linter.unusedVariables false
set_option linter.unusedSimpArgs false

/-! ### The greater of two, up to its form -/
theorem eqF.refl (a : SL) : eqF a a := ⟨rfl, rfl⟩
theorem eqF.symm {a b : SL} (h : eqF a b) : eqF b a := ⟨h.1.symm, h.2.symm⟩
theorem eqF.trans {a b c : SL} (h : eqF a b) (h' : eqF b c) : eqF a c := ⟨h.1.trans h'.1, h.2.trans h'.2⟩
theorem eqF.mx {a b c d : SL} (h : eqF a c) (h' : eqF b d) : eqF (.mx a b) (.mx c d) := nf_join h h'
theorem mx_comm (a b : SL) : eqF (.mx a b) (.mx b a) := nf_of (fun j => by simp only [kf]; omega) (by simp only [cf]; omega)
/-! ### A form's level has that form -/
def kfs : List SL → Nat → Int
 | [], _ => -1
 | q :: qs, j => max (kf q 0 j) (kfs qs j)
def cfs : List SL → Int
 | [] => -1
 | q :: qs => max (cf q 0) (cfs qs)
theorem kf_fold : ∀ (ps : List SL) (p : SL) (j : Nat), kf (ps.foldl SL.mx p) 0 j = max (kf p 0 j) (kfs ps j)
 | [], p, j => by have := kf_lo p 0 j (by decide); simp only [List.foldl_nil, kfs]; omega
 | q :: ps, p, j => by
  rw [List.foldl_cons, kf_fold ps (.mx p q) j]
  simp only [kf, kfs]
  omega
theorem cf_fold : ∀ (ps : List SL) (p : SL), cf (ps.foldl SL.mx p) 0 = max (cf p 0) (cfs ps)
 | [], p => by have := cf_lo p 0 (by decide); simp only [List.foldl_nil, cfs]; omega
 | q :: ps, p => by
  rw [List.foldl_cons, cf_fold ps (.mx p q)]
  simp only [cf, cfs]
  omega
theorem kfs_lo : ∀ (ps : List SL) (j : Nat), -1 ≤ kfs ps j
 | [], _ => by simp [kfs]
 | q :: ps, j => by have := kfs_lo ps j; simp only [kfs]; omega
theorem cfs_lo : ∀ (ps : List SL), -1 ≤ cfs ps
 | [] => by simp [cfs]
 | q :: ps => by have := cfs_lo ps; simp only [cfs]; omega
theorem kfs_app (xs ys : List SL) (j : Nat) : kfs (xs ++ ys) j = max (kfs xs j) (kfs ys j) := by
 induction xs with
 | nil => have := kfs_lo ys j; simp only [List.nil_append, kfs]; omega
 | cons x xs ih => simp only [List.cons_append, kfs, ih]; omega
theorem cfs_app (xs ys : List SL) : cfs (xs ++ ys) = max (cfs xs) (cfs ys) := by
 induction xs with
 | nil => have := cfs_lo ys; simp only [List.nil_append, cfs]; omega
 | cons x xs ih => simp only [List.cons_append, cfs, ih]; omega
theorem kfs_part (i : Nat) (k : Int) (hk : -1 ≤ k) (hk1 : k ≤ 1099511627776) (j : Nat) : kfs (part1 i k) j = if i = j then k else -1 := by
 unfold part1
 by_cases h1 : k < 0
 ·
  rw [if_pos h1]
  simp only [kfs]
  split <;> omega
 ·
  rw [if_neg h1]
  by_cases h2 : k = 0
  ·
   rw [if_pos h2, h2]
   simp only [kfs, kf]
   split <;> omega
  ·
   rw [if_neg h2]
   have h3 : cut (0 + ((k.toNat : Nat) : Int)) = k := by unfold cut; omega
   simp only [kfs, kf, h3]
   split <;> omega
theorem cfs_part (i : Nat) (k : Int) : cfs (part1 i k) = -1 := by
 unfold part1
 split
 ·
  rfl
 ·
  split <;> simp [cfs, cf]
theorem kfs_pts {c : Int} {ks : List Int} (hLo : Lo ks) (hHi : ∀ j, gt ks j ≤ 1099511627776) : ∀ (i j : Nat), kfs (pts c ks i) j = if j < i then gt ks j else -1
 | 0, j => by
  rw [if_neg (show ¬ j < 0 by omega), pts]
  split <;> simp [kfs, kf]
 | i + 1, j => by
  rw [pts, kfs_app, kfs_pts hLo hHi i j, kfs_part i (gt ks i) (hLo.gt i) (hHi i) j]
  have := hLo.gt j
  by_cases h1 : j < i
  ·
   rw [if_pos h1, if_neg (by omega), if_pos (by omega)]; omega
  ·
   rw [if_neg h1]
   by_cases h2 : i = j
   ·
    subst h2; rw [if_pos rfl, if_pos (by omega)]; omega
   ·
    rw [if_neg h2, if_neg (by omega)]; rfl
theorem cfs_pts {c : Int} {ks : List Int} (hc : 0 ≤ c) (hc1 : c ≤ 1099511627776) : ∀ (i : Nat), cfs (pts c ks i) = if c ≠ 0 ∨ ks = [] then c else -1
 | 0 => by
  rw [pts]
  split
  ·
   have h3 : cut (0 + ((c.toNat : Nat) : Int)) = c := by unfold cut; omega
   simp only [cfs, cf, h3]
   omega
  ·
   rfl
 | i + 1 => by
  rw [pts, cfs_app, cfs_pts hc hc1 i, cfs_part]
  split <;> omega
theorem nf_levF (s : SL) : eqF (levF (nfC s) (nfK s)) s := by
 have hp := pts_pos (c := nfC s) (nfK_tm s)
 have hk : ∀ j, kf (levF (nfC s) (nfK s)) 0 j = gt (nfK s) j := by
  intro j
  have h1 := kfs_pts (c := nfC s) (nfK_lo s) (nfK_hi s) (nfK s).length j
  unfold levF
  split
  ·
   next e => rw [e] at hp; simp at hp
  ·
   next p ps e =>
   rw [e] at h1
   rw [kf_fold]
   simp only [kfs] at h1
   rw [h1]
   split
   ·
    rfl
   ·
    rw [gt_ge (by omega)]
 have hc : cf (levF (nfC s) (nfK s)) 0 = if nfC s ≠ 0 ∨ nfK s = [] then nfC s else -1 := by
  have h1 := cfs_pts (c := nfC s) (ks := nfK s) (nfC_nn s) (nfC_le s) (nfK s).length
  unfold levF
  split
  ·
   next e => rw [e] at hp; simp at hp
  ·
   next p ps e =>
   rw [e] at h1
   rw [cf_fold]
   exact h1
 have eK : nfK (levF (nfC s) (nfK s)) = nfK s := tm_ext (nfK_tm _) (nfK_tm _) fun j => by rw [gt_nfK, hk]
 have ekm : km (levF (nfC s) (nfK s)) 0 = km s 0 := by rw [← mxl_nfK, ← mxl_nfK, eK]
 refine ⟨?_, eK⟩
 have h1 := nfC_is (levF (nfC s) (nfK s))
 have h2 := nfC_is s
 have h3 := km_nil s
 have h4 := km_lo s 0 (by decide)
 rw [ekm] at h1
 have h5 := nfC_nn s
 by_cases c1 : nfC s ≠ 0 ∨ nfK s = []
 ·
  rw [if_pos c1] at hc
  rw [h3] at c1
  omega
 ·
  rw [if_neg c1] at hc
  have : nfC s = 0 := Classical.byContradiction fun h => c1 (.inl h)
  omega
/-! ### Values, where nothing is cut -/
def SL.tot : SL → Int
 | .num n => n
 | .var _ => 0
 | .succ n a => n + a.tot
 | .mx a b => max a.tot b.tot
theorem SL.tot_nn : ∀ (s : SL), 0 ≤ s.tot
 | .num n => by simp only [SL.tot]; omega
 | .var _ => by simp [SL.tot]
 | .succ n a => by have := a.tot_nn; simp only [SL.tot]; omega
 | .mx a b => by have := a.tot_nn; simp only [SL.tot]; omega
theorem kf_tot : ∀ (s : SL) (n : Int) (j : Nat), 0 ≤ n → n + s.tot ≤ 1099511627776 → kf s n j ≤ n + s.tot
 | .num _, n, j, h, _ => by simp only [kf, SL.tot]; omega
 | .var i, n, j, h, _ => by simp only [kf, SL.tot]; split <;> omega
 | .succ m a, n, j, h, h1 => by
  have h2 := a.tot_nn
  simp only [SL.tot] at h1 ⊢
  have e : cut (n + m) = n + m := by unfold cut; omega
  have := kf_tot a (n + m) j (by omega) (by omega)
  simp only [kf, e]
  omega
 | .mx a b, n, j, h, h1 => by
  simp only [SL.tot] at h1 ⊢
  have := kf_tot a n j h (by omega)
  have := kf_tot b n j h (by omega)
  simp only [kf]
  omega
theorem cf_tot : ∀ (s : SL) (n : Int), 0 ≤ n → n + s.tot ≤ 1099511627776 → cf s n ≤ n + s.tot
 | .num _, n, h, _ => by simp only [cf, SL.tot, cut]; omega
 | .var i, n, h, _ => by simp only [cf, SL.tot]; omega
 | .succ m a, n, h, h1 => by
  have h2 := a.tot_nn
  simp only [SL.tot] at h1 ⊢
  have e : cut (n + m) = n + m := by unfold cut; omega
  have := cf_tot a (n + m) (by omega) (by omega)
  simp only [cf, e]
  omega
 | .mx a b, n, h, h1 => by
  simp only [SL.tot] at h1 ⊢
  have := cf_tot a n h (by omega)
  have := cf_tot b n h (by omega)
  simp only [cf]
  omega
section
variable {ρ : Nat → Int} {B : Int}
theorem val_tot (hρ : ∀ j, 0 ≤ ρ j ∧ ρ j ≤ B) : ∀ (s : SL), s.tot + B ≤ 1099511627776 → 0 ≤ val s ρ ∧ val s ρ ≤ s.tot + B
 | .num n, h => by have := hρ 0; simp only [val, SL.tot] at *; omega
 | .var i, h => by have := hρ i; simp only [val, SL.tot] at *; omega
 | .succ n a, h => by
  simp only [SL.tot] at h ⊢
  have := val_tot hρ a (by omega)
  simp only [val, cut]
  omega
 | .mx a b, h => by
  simp only [SL.tot] at h ⊢
  have := val_tot hρ a (by omega)
  have := val_tot hρ b (by omega)
  simp only [val]
  omega
/-- The value is the greatest of what the leaves come to. -/
theorem val_is (hρ : ∀ j, 0 ≤ ρ j ∧ ρ j ≤ B) : ∀ (s : SL) (n : Int), 0 ≤ n → n + s.tot + B ≤ 1099511627776 → cf s n ≤ val s ρ + n ∧ (∀ j, 0 ≤ kf s n j → kf s n j + ρ j ≤ val s ρ + n) ∧ (val s ρ + n = cf s n ∨ ∃ j, 0 ≤ kf s n j ∧ val s ρ + n = kf s n j + ρ j)
 | .num m, n, h, h1 => by
  have hB := hρ 0
  simp only [SL.tot] at h1
  have e : cut (n + m) = n + m := by unfold cut; omega
  simp only [cf, val, kf, e]
  exact ⟨by omega, fun j hj => by omega, .inl (by omega)⟩
 | .var i, n, h, h1 => by
  have hB := hρ i
  refine ⟨by simp only [cf, val]; omega, fun j hj => ?_, .inr ⟨i, by simp [kf, h], by simp [kf, val]; omega⟩⟩
  simp only [kf, val] at hj ⊢
  split at hj
  ·
   next e => subst e; omega
  ·
   omega
 | .succ m a, n, h, h1 => by
  have hB := hρ 0
  have h2 := a.tot_nn
  simp only [SL.tot] at h1
  have e : cut (n + m) = n + m := by unfold cut; omega
  have hv := val_tot hρ a (by omega)
  have e2 : cut (m + val a ρ) = m + val a ρ := by unfold cut; omega
  obtain ⟨g1, g2, g3⟩ := val_is hρ a (n + m) (by omega) (by omega)
  simp only [cf, kf, val, e, e2]
  refine ⟨by omega, fun j hj => by have := g2 j hj; omega, ?_⟩
  rcases g3 with g3 | ⟨j, g3, g4⟩
  ·
   exact .inl (by omega)
  ·
   exact .inr ⟨j, g3, by omega⟩
 | .mx a b, n, h, h1 => by
  simp only [SL.tot] at h1
  obtain ⟨a1, a2, a3⟩ := val_is hρ a n h (by omega)
  obtain ⟨b1, b2, b3⟩ := val_is hρ b n h (by omega)
  simp only [cf, kf, val]
  refine ⟨by omega, fun j hj => ?_, ?_⟩
  ·
   have h3 := a2 j
   have h4 := b2 j
   omega
  ·
   have h5 : ∀ j, 0 ≤ kf a n j → 0 ≤ kf a n j → kf a n j + ρ j ≤ val a ρ + n := fun j hj _ => a2 j hj
   by_cases hc : val b ρ ≤ val a ρ
   ·
    rcases a3 with a3 | ⟨j, a3, a4⟩
    ·
     left; omega
    ·
     right
     refine ⟨j, by omega, ?_⟩
     have := b2 j
     omega
   ·
    rcases b3 with b3 | ⟨j, b3, b4⟩
    ·
     left; omega
    ·
     right
     refine ⟨j, by omega, ?_⟩
     have := a2 j
     omega
/-- The same, by the form. -/
def VF (ρ : Nat → Int) (c : Int) (K : List Int) (v : Int) : Prop := c ≤ v ∧ (∀ j, 0 ≤ gt K j → gt K j + ρ j ≤ v) ∧ (v = c ∨ ∃ j, 0 ≤ gt K j ∧ v = gt K j + ρ j)
theorem VF.one {c : Int} {K : List Int} {v v' : Int} (h : VF ρ c K v) (h' : VF ρ c K v') : v = v' := by
 obtain ⟨a1, a2, a3⟩ := h
 obtain ⟨b1, b2, b3⟩ := h'
 rcases a3 with a3 | ⟨j, a3, a4⟩
 ·
  rcases b3 with b3 | ⟨i, b3, b4⟩
  ·
   omega
  ·
   have := a2 i b3; omega
 ·
  have := b2 j a3
  rcases b3 with b3 | ⟨i, b3, b4⟩
  ·
   omega
  ·
   have := a2 i b3; omega
theorem val_nf (hρ : ∀ j, 0 ≤ ρ j ∧ ρ j ≤ B) {s : SL} (h : s.tot + B ≤ 1099511627776) : VF ρ (nfC s) (nfK s) (val s ρ) := by
 obtain ⟨g1, g2, g3⟩ := val_is hρ s 0 (by decide) (by omega)
 have hv := val_tot hρ s h
 have hi := nfC_is s
 rw [Int.add_zero] at g1 g3
 refine ⟨by omega, fun j hj => by rw [gt_nfK] at hj ⊢; have := g2 j hj; omega, ?_⟩
 rcases hi with ⟨i1, i2⟩ | ⟨i1, i2⟩
 ·
  rcases g3 with g3 | ⟨j, g3, g4⟩
  ·
   have h0 : 0 ≤ km s 0 := by omega
   rcases km_kf s 0 (by decide) with hk | ⟨j, hk⟩
   ·
    omega
   ·
    right
    refine ⟨j, by rw [gt_nfK]; omega, ?_⟩
    have := g2 j (by omega)
    have := hρ j
    rw [gt_nfK]
    omega
  ·
   exact .inr ⟨j, by rw [gt_nfK]; exact g3, by rw [gt_nfK]; omega⟩
 ·
  rcases g3 with g3 | ⟨j, g3, g4⟩
  ·
   exact .inl (by omega)
  ·
   exact .inr ⟨j, by rw [gt_nfK]; exact g3, by rw [gt_nfK]; omega⟩
theorem eqF.val (hρ : ∀ j, 0 ≤ ρ j ∧ ρ j ≤ B) {s t : SL} (h : eqF s t) (hs : s.tot + B ≤ 1099511627776) (ht : t.tot + B ≤ 1099511627776) : val s ρ = val t ρ := by
 have h1 := val_nf hρ hs
 have h2 := val_nf hρ ht
 rw [h.1, h.2] at h1
 exact h1.one h2
theorem leS.val (hρ : ∀ j, 0 ≤ ρ j ∧ ρ j ≤ B) {s t : SL} (h : leS s t) (hs : s.tot + B ≤ 1099511627776) (ht : t.tot + B ≤ 1099511627776) : val s ρ ≤ val t ρ := by
 have := eqF.val hρ h (by simp only [SL.tot]; omega) ht
 simp only [Ytbhhbfdoadecgaa.val] at this
 omega
end
/-- Where one variable alone is great. -/
def oneAt (i : Nat) (j : Nat) : Int := if j = i then 34359738368 else 0
theorem leS_of {s t : SL} (hs : s.tot ≤ 1073741824) (ht : t.tot ≤ 1073741824) (h0 : val s (fun _ => 0) ≤ val t (fun _ => 0)) (h : ∀ i, i < (nfK s).length → val s (oneAt i) ≤ val t (oneAt i)) : leS s t := by
 have hρ : ∀ i j, 0 ≤ oneAt i j ∧ oneAt i j ≤ 34359738368 := fun i j => by unfold oneAt; split <;> omega
 have hz : ∀ j : Nat, 0 ≤ (fun _ : Nat => (0 : Int)) j ∧ (fun _ : Nat => (0 : Int)) j ≤ 0 := fun j => ⟨by simp, by simp⟩
 have kt : ∀ j, gt (nfK t) j ≤ t.tot := fun j => by rw [gt_nfK]; have := kf_tot t 0 j (by decide) (by omega); omega
 have ct : nfC t ≤ t.tot := by have := nfC_is t; have := cf_tot t 0 (by decide) (by omega); have := t.tot_nn; omega
 have hk : ∀ j, gt (nfK s) j ≤ gt (nfK t) j := by
  intro j
  have l1 := (nfK_lo s).gt j
  have l2 := (nfK_lo t).gt j
  by_cases hg : gt (nfK s) j < 0
  ·
   omega
  ·
   have hj : j < (nfK s).length := Classical.byContradiction fun hj => by rw [gt_ge (by omega)] at hg; omega
   have hle := h j hj
   obtain ⟨a1, a2, a3⟩ := val_nf (hρ j) (s := s) (by omega)
   obtain ⟨b1, b2, b3⟩ := val_nf (hρ j) (s := t) (by omega)
   have := a2 j (by omega)
   have e : oneAt j j = 34359738368 := by simp [oneAt]
   rw [e] at this
   rcases b3 with b3 | ⟨i, b3, b4⟩
   ·
    omega
   ·
    have := kt i
    by_cases hij : i = j
    ·
     subst hij; rw [e] at b4; omega
    ·
     have e2 : oneAt j i = 0 := by simp [oneAt, hij]
     rw [e2] at b4
     omega
 have eK : nfK (.mx s t) = nfK t := tm_ext (nfK_tm _) (nfK_tm _) fun j => by rw [gt_mx]; have := hk j; omega
 refine ⟨?_, eK⟩
 obtain ⟨a1, a2, a3⟩ := val_nf hz (s := s) (by omega)
 obtain ⟨b1, b2, b3⟩ := val_nf hz (s := t) (by omega)
 rw [nfC_mx, eK]
 have h1 := setl_is (max (nfC s) (nfC t)) (nfK t)
 have h2 := nfC_is t
 have h3 := nfC_nn s
 have h4 := km_lo t 0 (by decide)
 rw [mxl_nfK] at h1
 rcases b3 with b3 | ⟨j, b3, b4⟩
 ·
  omega
 ·
  have := mxl_ge (nfK t) j
  rw [mxl_nfK] at this
  simp only [Int.add_zero] at b4
  omega
end Go.Proofs.Ytbhhbfdoadecgaa

namespace Go.Proofs.Ytbhhbfdoadecgaa
open Go.RowKit Go.Shelf
set_option linter.unusedVariables false
set_option linter.unusedSimpArgs false

theorem rd_onlyZ {w w' : World} {c : Nat} {v : Value} {k n : Nat} {cs : List Value} (m : Rd w v k n cs) (h : Only c w w') (hb : ∀ j, v.ownBlock = some j → 0 < n → j ≠ c) : Rd w' v k n cs := by
 rcases Nat.eq_zero_or_pos n with h0 | h0
 ·
  subst h0
  refine ⟨m.1, ?_⟩
  obtain ⟨a, cp, rfl, _, h2⟩ := m.form
  exact .inl ⟨a, cp, rfl, rfl, h2⟩
 ·
  exact m.keep (Nat.le_of_eq h.size.symm) fun b hv hl => h.block b (hb b hv h0)

set_option maxRecDepth 100000 in
set_option maxHeartbeats 1600000 in
theorem raiseForm46g (base g o : Nat) (v : Value) (c : Int) (ks : List Int) (c2 : Int) (v2 : Value) (ls : List Int) (n : Int) (w1 : World) (hn0 : 0 ≤ n) (hn1 : n ≤ 1099511627776) (h20 : 0 ≤ c2) (h21 : c2 ≤ 1099511627776) (hkl : ks.length ≤ 1001) (hll : ls.length ≤ 1001) (hLo : Lo ls) (hHi : ∀ j, gt ls j ≤ 1099511627776) (hV : Rd w1 v2 1 ls.length (ints ls)) (hdis : ∀ j, v2.ownBlock = some j → j ≠ g ∧ j ≠ o) (hA : FA 126 base w1 g o v c ks) :
  Calls Try.prog 108 #[.pointer (some ⟨g, 0, none⟩), .agg [.int .i64 c2, v2].toArray, .int .i64 n] w1 fun e w' => ∃ u, e = .returned u ∧ (u = .tuple #[] ∧ ∃ v' o', FA 126 base w' g o' v' (max c (cut (n + c2))) (jn ks ls n ls.length) ∧ (o' = o ∨ w1.heap.size ≤ o')) ∧ Ktw g o w1 w' := by
 have hK := Ktw.refl g o w1
 have hlo := hA.lo
 have hgl := hA.lt
 have mg := hA.blk
 have hO := hA.own
 have hat := hA.at'
 have hne := hA.ne
 obtain ⟨av, cv, hve, _⟩ := hV.form
 rw [hve]
 refine calls_fs 37 [(0, .pointer (some ⟨g, 0, none⟩)), (1, .agg [.int .i64 c2, .slice av ls.length cv].toArray), (2, .int .i64 n)] Try.func108 rfl rfl rfl rfl rfl fun a hF => ?_
 refine wp_rs fun K1 hK1 => ?_
 refine s_box ([.int .i64 c2, .slice av ls.length cv]) hF (by decide) rfl rfl fun w2 b4 a eb4 m4 B3 zb4 hF => ?_
 have sB3 := B3.size
 have hK := hK.below B3
 have mg := mg.old B3
 have hO := own_below hO B3
 refine s_end (hK1 _ _ ?_)
 refine dk2_seq (g) (g) (ops := regOps Try.f108 1) (N := 13) (by kernel_rfl) wide_orders (by kernel_rfl) fun w4 hw4 B5 hS K2 hK2 => ?_
 have zw4 : w4.heap.size = w2.heap.size := by rw [hw4]
 have sB5 := B5.size
 have hK := hK.below B5
 have mg := mg.old B5
 have hO := own_below hO B5
 have m4 := m4.old B5
 have mg_d := mg
 have hO_d := hO
 have m4_d := m4
 have hK_d := hK
 refine hF.d 0 8 (.move (.tmp 0)) hS (fun W hW => x_move rfl) fun a hF => ?_
 refine hF.d 1 9 (.move (.tmp 0)) hS (fun W hW => x_move rfl) fun a hF => ?_
 refine hF.d 2 10 (.nilCheck (.tmp 9)) hS (fun W hW => x_nil rfl) fun a hF => ?_
 refine hF.d 3 11 (.fieldAddr 126 (.tmp 10) 0) hS (fun W hW => x_fa0 fa59_0 rfl) fun a hF => ?_
 refine hF.d 5 13 (.move (.tmp 2)) hS (fun W hW => x_move rfl) fun a hF => ?_
 refine hF.d 6 14 (.fieldAddr 126 (.tmp 4) 0) hS (fun W hW => x_fa0 fa59_0 rfl) fun a hF => ?_
 refine hF.d 7 15 (.load 3 (.tmp 14)) hS (fun W hW => x_load rfl (m_load flat3 ((m4_d.k2 hW (by omega)).cell (j := 0) rfl))) fun a hF => ?_
 refine d_two 4 8 (by kernel_rfl) ?_ ?_
 ·
  refine d_op 4 (some 12) (.load 3 (.tmp 11)) (by kernel_rfl) fun ty pos af => ?_
  refine hF.v (x_load rfl (m_load flat3 (mg.cell (j := 0) rfl))) fun a hF => ?_
  refine s_end ⟨hS, ?_⟩
  refine d1 8 (some 16) (.call (.mk (.value (.func 138)) #[(.tmp 13), (.tmp 15)] #[3, 3])) fun ty pos af => ?_
  refine s_callS [_, _] hF E138 rfl (by decide) (sum54 _ _ (by omega) (by omega) (by omega) (by omega) _) fun a hF => ?_
  refine s_end ⟨hS, ?_⟩
  refine hF.d 9 17 (.call (.mk (.builtin .max) #[(.tmp 12), (.tmp 16)] #[3, 3])) hS (fun W hW => x_imax rfl rfl) fun a hF => ?_
  refine hF.d 10 18 (.nilCheck (.tmp 8)) hS (fun W hW => x_nil rfl) fun a hF => ?_
  refine hF.d 11 19 (.fieldAddr 126 (.tmp 18) 0) hS (fun W hW => x_fa0 fa59_0 rfl) fun a hF => ?_
  refine d1 12 none (.store 3 (.tmp 19) (.tmp 17)) fun ty pos af => ?_
  refine s_put hF rfl rfl flat3 mg (by first | (simp; done) | (show _ < 3; decide)) rfl fun w6 mg o7 => ?_
  have so7 := o7.size
  have hK := hK.only o7 (by omega)
  have hO := own_only hO o7 (hne)
  have m4 := m4.only o7 (by omega)
  have hS := hS.only o7 (by omega)
  refine s_end ⟨hS, ?_⟩
  refine d_end (by kernel_rfl) (hK2 _ _ ?_)
  refine wp_rs fun K3 hK3 => ?_
  refine hF.v (x_fa0 fa59_1 rfl) fun a hF => ?_
  refine hF.v (x_load rfl (m_load flat29 (m4.cell (j := 1) rfl))) fun a hF => ?_
  refine hF.v (x_len Try.underlying92 rfl) fun a hF => ?_
  refine hF.v (x_move rfl) fun a hF => ?_
  refine s_end (hK3 _ _ ?_)
  refine wp_block ?_
  refine wp_up ls.length (fun i a w => ∃ v' o', FA 126 base w g o' v' (max c (cut (n + c2))) (jn ks ls n i) ∧ (o' = o ∨ w1.heap.size ≤ o') ∧ Ktw g o w1 w ∧ Fs 37 a [(23, .int .i64 (i : Int)), (22, .int .i64 (ls.length : Int)), (21, .slice av ls.length cv), (0, .pointer (some ⟨g, 0, none⟩)), (2, .int .i64 n)]) ⟨v, o, ⟨mg, hO, hat, hne, by omega⟩, .inl rfl, hK, hF.sub _ rfl⟩ ?_
  repeat clear hF
  clear hK hA mg hO hat hne
  rintro i a w hi ⟨vv, o2, hA, ho2, hK, hF⟩ K' hK'
  have sK := hK.size
  have hlo2 := hA.lo
  have hgl2 := hA.lt
  have hjl := jn_len (L := ks) (G := ls) n i
  have hBw := Below.refl w.heap.size w
  refine wp_rs fun K4 hK4 => ?_
  refine hF.v (x_lss rfl rfl rfl) fun a hF => ?_
  refine s_end (hK4 _ _ ?_)
  refine wp_seq_k fun K5 hK5 => ?_
  refine wp_iff hF rfl (fun hc24 => ?_) (fun hc24 => ?_)
  ·
   obtain ⟨b1, off1, c1, hve2, hrow⟩ := rd_rowI (hV.k2 hK hdis) (i := i) (by omega)
   rw [hve] at hve2
   cases hve2
   have hgi := hLo.gt i
   have hgh := hHi i
   refine wp_skip (hK5 _ _ ?_)
   refine wp_seq_k fun K6 hK6 => ?_
   refine wp_block ?_
   refine wp_rs fun K7 hK7 => ?_
   refine hF.v (x_move rfl) fun a hF => ?_
   refine hF.v (x_ixa rfl rfl (m_ixs i Try.underlying92 el29.size rfl (by omega))) fun a hF => ?_
   refine hF.v (x_load rfl (m_load flat3 (hrow _ hBw))) fun a hF => ?_
   refine hF.v (x_assign rfl) fun a hF => ?_
   refine hF.v (x_assign rfl) fun a hF => ?_
   refine s_end (hK7 _ _ ?_)
   refine wp_rs fun K8 hK8 => ?_
   refine hF.v (x_move rfl) fun a hF => ?_
   refine hF.v (x_neq rfl rfl rfl) fun a hF => ?_
   refine s_end (hK8 _ _ ?_)
   refine wp_iff hF rfl (fun hc29 => ?_) (fun hc29 => ?_)
   ·
    have hj : jn ks ls n (i + 1) = up (jn ks ls n i) i (cut (n + gt ls i)) := by rw [jn, if_neg hc29]
    refine wp_region_lit ?_
    refine hF.v (x_move rfl) fun a hF => ?_
    refine hF.v (x_move rfl) fun a hF => ?_
    refine hF.v (x_move rfl) fun a hF => ?_
    refine hF.v (x_move rfl) fun a hF => ?_
    refine s_callS [_, _] hF E138 rfl (by decide) (sum54 _ _ (by omega) (by omega) (by omega) (by omega) _) fun a hF => ?_
    refine s_call (R := fun u w' => (u = .tuple #[] ∧ ∃ v' o', FA 126 base w' g o' v' (max c (cut (n + c2))) (up (jn ks ls n i) i (cut (n + gt ls i))) ∧ (o' = o2 ∨ w.heap.size ≤ o')) ∧ Ktw g o2 w w') hF [_, _, _] E107 rfl (by decide) (raiseVar48 base g o2 vv _ (jn ks ls n i) i (cut (n + gt ls i)) w hA (by omega) (by omega)) ?_
    rintro _ w8 a ⟨⟨rfl, v3, o3, hA, ho3⟩, k9⟩ hF
    have sk9 := k9.size
    have hK := hK.trans k9 (by omega)
    refine s_end (hK6 _ _ ?_)
    refine wp_region_lit ?_
    refine hF.v (x_addn (i + 1) (by omega) (by omega) rfl rfl) fun a hF => ?_
    refine hF.v (x_move rfl) fun a hF => ?_
    refine s_end (hK' _ _ (by omega) ⟨_, _, by rw [hj]; exact hA, by omega, hK, hF.sub _ rfl⟩)
   ·
    have hj : jn ks ls n (i + 1) = jn ks ls n i := by rw [jn, if_pos (by omega)]
    refine wp_skip (hK6 _ _ ?_)
    refine wp_region_lit ?_
    refine hF.v (x_addn (i + 1) (by omega) (by omega) rfl rfl) fun a hF => ?_
    refine hF.v (x_move rfl) fun a hF => ?_
    refine s_end (hK' _ _ (by omega) ⟨_, _, by rw [hj]; exact hA, by omega, hK, hF.sub _ rfl⟩)
  ·
   obtain rfl : i = ls.length := by omega
   refine wp_exit ?_
   show bodyPost Try.prog Try.f108 (fun e w' => ∃ u, e = .returned u ∧ (u = .tuple #[] ∧ ∃ v' o', FA 126 base w' g o' v' (max c (cut (n + c2))) (jn ks ls n ls.length) ∧ (o' = o ∨ w1.heap.size ≤ o')) ∧ Ktw g o w1 w') .normal a w
   refine post_normal (res_none hF rfl ⟨_, rfl, ⟨rfl, _, _, hA, ho2⟩, hK⟩)
 ·
  refine d_op 8 (some 16) (.call (.mk (.value (.func 138)) #[(.tmp 13), (.tmp 15)] #[3, 3])) (by kernel_rfl) fun ty pos af => ?_
  refine s_callS [_, _] hF E138 rfl (by decide) (sum54 _ _ (by omega) (by omega) (by omega) (by omega) _) fun a hF => ?_
  refine s_end ⟨hS, ?_⟩
  refine d1 4 (some 12) (.load 3 (.tmp 11)) fun ty pos af => ?_
  refine hF.v (x_load rfl (m_load flat3 (mg.cell (j := 0) rfl))) fun a hF => ?_
  refine s_end ⟨hS, ?_⟩
  refine hF.d 9 17 (.call (.mk (.builtin .max) #[(.tmp 12), (.tmp 16)] #[3, 3])) hS (fun W hW => x_imax rfl rfl) fun a hF => ?_
  refine hF.d 10 18 (.nilCheck (.tmp 8)) hS (fun W hW => x_nil rfl) fun a hF => ?_
  refine hF.d 11 19 (.fieldAddr 126 (.tmp 18) 0) hS (fun W hW => x_fa0 fa59_0 rfl) fun a hF => ?_
  refine d1 12 none (.store 3 (.tmp 19) (.tmp 17)) fun ty pos af => ?_
  refine s_put hF rfl rfl flat3 mg (by first | (simp; done) | (show _ < 3; decide)) rfl fun w10 mg o11 => ?_
  have so11 := o11.size
  have hK := hK.only o11 (by omega)
  have hO := own_only hO o11 (hne)
  have m4 := m4.only o11 (by omega)
  have hS := hS.only o11 (by omega)
  refine s_end ⟨hS, ?_⟩
  refine d_end (by kernel_rfl) (hK2 _ _ ?_)
  refine wp_rs fun K9 hK9 => ?_
  refine hF.v (x_fa0 fa59_1 rfl) fun a hF => ?_
  refine hF.v (x_load rfl (m_load flat29 (m4.cell (j := 1) rfl))) fun a hF => ?_
  refine hF.v (x_len Try.underlying92 rfl) fun a hF => ?_
  refine hF.v (x_move rfl) fun a hF => ?_
  refine s_end (hK9 _ _ ?_)
  refine wp_block ?_
  refine wp_up ls.length (fun i a w => ∃ v' o', FA 126 base w g o' v' (max c (cut (n + c2))) (jn ks ls n i) ∧ (o' = o ∨ w1.heap.size ≤ o') ∧ Ktw g o w1 w ∧ Fs 37 a [(23, .int .i64 (i : Int)), (22, .int .i64 (ls.length : Int)), (21, .slice av ls.length cv), (0, .pointer (some ⟨g, 0, none⟩)), (2, .int .i64 n)]) ⟨v, o, ⟨mg, hO, hat, hne, by omega⟩, .inl rfl, hK, hF.sub _ rfl⟩ ?_
  repeat clear hF
  clear hK hA mg hO hat hne
  rintro i a w hi ⟨vv, o2, hA, ho2, hK, hF⟩ K' hK'
  have sK := hK.size
  have hlo2 := hA.lo
  have hgl2 := hA.lt
  have hjl := jn_len (L := ks) (G := ls) n i
  have hBw := Below.refl w.heap.size w
  refine wp_rs fun K10 hK10 => ?_
  refine hF.v (x_lss rfl rfl rfl) fun a hF => ?_
  refine s_end (hK10 _ _ ?_)
  refine wp_seq_k fun K11 hK11 => ?_
  refine wp_iff hF rfl (fun hc24 => ?_) (fun hc24 => ?_)
  ·
   obtain ⟨b1, off1, c1, hve2, hrow⟩ := rd_rowI (hV.k2 hK hdis) (i := i) (by omega)
   rw [hve] at hve2
   cases hve2
   have hgi := hLo.gt i
   have hgh := hHi i
   refine wp_skip (hK11 _ _ ?_)
   refine wp_seq_k fun K12 hK12 => ?_
   refine wp_block ?_
   refine wp_rs fun K13 hK13 => ?_
   refine hF.v (x_move rfl) fun a hF => ?_
   refine hF.v (x_ixa rfl rfl (m_ixs i Try.underlying92 el29.size rfl (by omega))) fun a hF => ?_
   refine hF.v (x_load rfl (m_load flat3 (hrow _ hBw))) fun a hF => ?_
   refine hF.v (x_assign rfl) fun a hF => ?_
   refine hF.v (x_assign rfl) fun a hF => ?_
   refine s_end (hK13 _ _ ?_)
   refine wp_rs fun K14 hK14 => ?_
   refine hF.v (x_move rfl) fun a hF => ?_
   refine hF.v (x_neq rfl rfl rfl) fun a hF => ?_
   refine s_end (hK14 _ _ ?_)
   refine wp_iff hF rfl (fun hc29 => ?_) (fun hc29 => ?_)
   ·
    have hj : jn ks ls n (i + 1) = up (jn ks ls n i) i (cut (n + gt ls i)) := by rw [jn, if_neg hc29]
    refine wp_region_lit ?_
    refine hF.v (x_move rfl) fun a hF => ?_
    refine hF.v (x_move rfl) fun a hF => ?_
    refine hF.v (x_move rfl) fun a hF => ?_
    refine hF.v (x_move rfl) fun a hF => ?_
    refine s_callS [_, _] hF E138 rfl (by decide) (sum54 _ _ (by omega) (by omega) (by omega) (by omega) _) fun a hF => ?_
    refine s_call (R := fun u w' => (u = .tuple #[] ∧ ∃ v' o', FA 126 base w' g o' v' (max c (cut (n + c2))) (up (jn ks ls n i) i (cut (n + gt ls i))) ∧ (o' = o2 ∨ w.heap.size ≤ o')) ∧ Ktw g o2 w w') hF [_, _, _] E107 rfl (by decide) (raiseVar48 base g o2 vv _ (jn ks ls n i) i (cut (n + gt ls i)) w hA (by omega) (by omega)) ?_
    rintro _ w12 a ⟨⟨rfl, v3, o3, hA, ho3⟩, k13⟩ hF
    have sk13 := k13.size
    have hK := hK.trans k13 (by omega)
    refine s_end (hK12 _ _ ?_)
    refine wp_region_lit ?_
    refine hF.v (x_addn (i + 1) (by omega) (by omega) rfl rfl) fun a hF => ?_
    refine hF.v (x_move rfl) fun a hF => ?_
    refine s_end (hK' _ _ (by omega) ⟨_, _, by rw [hj]; exact hA, by omega, hK, hF.sub _ rfl⟩)
   ·
    have hj : jn ks ls n (i + 1) = jn ks ls n i := by rw [jn, if_pos (by omega)]
    refine wp_skip (hK12 _ _ ?_)
    refine wp_region_lit ?_
    refine hF.v (x_addn (i + 1) (by omega) (by omega) rfl rfl) fun a hF => ?_
    refine hF.v (x_move rfl) fun a hF => ?_
    refine s_end (hK' _ _ (by omega) ⟨_, _, by rw [hj]; exact hA, by omega, hK, hF.sub _ rfl⟩)
  ·
   obtain rfl : i = ls.length := by omega
   refine wp_exit ?_
   show bodyPost Try.prog Try.f108 (fun e w' => ∃ u, e = .returned u ∧ (u = .tuple #[] ∧ ∃ v' o', FA 126 base w' g o' v' (max c (cut (n + c2))) (jn ks ls n ls.length) ∧ (o' = o ∨ w1.heap.size ≤ o')) ∧ Ktw g o w1 w') .normal a w
   refine post_normal (res_none hF rfl ⟨_, rfl, ⟨rfl, _, _, hA, ho2⟩, hK⟩)

set_option maxRecDepth 100000 in
set_option maxHeartbeats 1600000 in
theorem formOf38y (x : C3) (l : Lv) (w0 : World) (hL : RL w0 x l) : Calls Try.prog 106 #[lv x] w0 fun e w' => ∃ v, e = .returned v ∧ (∃ c vk ks, v = .tuple #[.agg [.int .i64 c, vk].toArray, .bool (decide (sndL l))] ∧ FF w0 x l w' c vk ks ∧ ∀ j, vk.ownBlock = some j → w0.heap.size ≤ j) ∧ Below w0.heap.size w0 w' := by
 have hB := Below.refl w0.heap.size w0
 have sB := hB.size
 refine calls_fs 13 [(0, lv x)] Try.func106 rfl rfl rfl rfl rfl fun a hF => ?_
 refine wp_rs fun K1 hK1 => ?_
 refine s_box (lc x) hF (by decide) rfl rfl fun w2 b1 a eb1 m1 B3 zb1 hF => ?_
 have sB3 := B3.size
 have hB := bt hB B3
 refine s_alloc hF (by decide) zero59 fun w4 b2 a eb2 m2 B5 zb2 hF => ?_
 have sB5 := B5.size
 have hB := bt hB B5
 have m1 := m1.old B5
 refine hF.v (x_assign rfl) fun a hF => ?_
 refine s_end (hK1 _ _ ?_)
 refine wp_seq_k fun K2 hK2 => ?_
 rcases (show decide (sndL l) = false ∨ decide (sndL l) = true by cases decide (sndL l) <;> simp) with hd | hd
 ·
  have hn : ¬ sndL l := of_decide_eq_false hd
  refine wp_rs fun K4 hK4 => ?_
  refine hF.v (x_ldW wide24 m1 rfl rfl) fun a hF => ?_
  refine s_callB [_] hF E136 rfl (by decide) (isSound49 x l w4 (hL.old hB)) fun w6 a B7 hF => ?_
  have sB7 := B7.size
  have hB := bt hB B7
  have m2 := m2.old B7
  rw [hd] at hF
  refine hF.v (x_not rfl) fun a hF => ?_
  refine s_end (hK4 _ _ ?_)
  refine wp_if hF rfl ?_
  refine wp_rs fun K5 hK5 => ?_
  refine hF.v (x_build (vs := []) rfl (b59_ _)) fun a hF => ?_
  refine s_putW hF rfl rfl (size_wide wide59) m2 rfl (one2 rfl) fun w8 m2 o9 => ?_
  have so9 := o9.size
  have hB := hB.trans (o9.below (by omega))
  refine hF.v (x_assign rfl) fun a hF => ?_
  refine s_end (hK5 _ _ ?_)
  refine wp_ret (then_ret (res_ct hF rfl rfl m2 wide59 rfl ⟨_, rfl, ⟨_, _, [], by rw [hd], ⟨Rd.nil _ _, fun _ => ⟨rfl, rfl⟩, fun s hs hsg => absurd (rs_snd hL hs hsg) hn⟩, fun j h => by cases h⟩, hB⟩))
 ·
  have hn : sndL l := of_decide_eq_true hd
  obtain ⟨s, hs, hsg⟩ := sound_sl hL hn
  refine wp_rs fun K6 hK6 => ?_
  refine hF.v (x_ldW wide24 m1 rfl rfl) fun a hF => ?_
  refine s_callB [_] hF E136 rfl (by decide) (isSound49 x l w4 (hL.old hB)) fun w10 a B11 hF => ?_
  have sB11 := B11.size
  have hB := bt hB B11
  have m1 := m1.old B11
  have m2 := m2.old B11
  rw [hd] at hF
  refine hF.v (x_not rfl) fun a hF => ?_
  refine s_end (hK6 _ _ ?_)
  refine wp_if hF rfl ?_
  refine wp_skip (hK2 _ _ ?_)
  refine wp_rs fun K7 hK7 => ?_
  refine s_alloc hF (by decide) zero59 fun w12 b4 a eb4 m4 B13 zb4 hF => ?_
  have sB13 := B13.size
  have hB := bt hB B13
  have m1 := m1.old B13
  have m2 := m2.old B13
  refine s_end (hK7 _ _ ?_)
  refine wp_rs fun K8 hK8 => ?_
  refine hF.v (x_ldW wide24 m1 rfl rfl) fun a hF => ?_
  have hA : FA 126 w0.heap.size w12 b4 b4 (.slice none 0 0) 0 [] := FA.start m4 (by omega)
  refine s_call (R := fun u w' => (u = .tuple #[] ∧ ∃ v' o', FA 126 w0.heap.size w' b4 o' v' (rc s 0 0) (nfK s) ∧ (o' = b4 ∨ w12.heap.size ≤ o')) ∧ Ktw b4 b4 w12 w') hF [_, _, _] E137 rfl (by decide) (raise59 w0 b4 s x hs hsg.2.2 0 b4 _ 0 [] w12 (by decide) (by decide) (by decide) (by decide) (by decide) hB hA) ?_
  rintro _ w14 a ⟨⟨rfl, v2, o2, hA, ho2⟩, k15⟩ hF
  have sk15 := k15.size
  have hB := k15.under hB (by omega)
  have m2 := m2.k2 k15 (by omega)
  have hlo := hA.lo
  refine s_end (hK8 _ _ ?_)
  refine wp_rs fun K9 hK9 => ?_
  refine s_call (R := fun u w' => (u = .tuple #[] ∧ FA 126 w0.heap.size w' b4 o2 v2 (setl (rc s 0 0) (nfK s)) (nfK s)) ∧ Ktw b4 o2 w14 w') hF [_] E109 rfl (by decide) (settle47 w0.heap.size b4 o2 v2 _ (nfK s) w14 hA (by have := nfK_len s hsg; omega) (nfK_lo s) (rc_bd (by decide) (by decide) (by decide) (by decide)).1) ?_
  rintro _ w16 a ⟨⟨rfl, hA⟩, k17⟩ hF
  have sk17 := k17.size
  have hB := k17.under hB (by omega)
  have m2 := m2.k2 k17 (by omega)
  rw [nfC_setl] at hA
  have m4 := hA.blk
  have hlo2 := hA.lo
  have h1v := hA.rd.one
  refine s_end (hK9 _ _ ?_)
  refine wp_rs fun K10 hK10 => ?_
  refine hF.v (x_ldW wide59 m4 rfl rfl) fun a hF => ?_
  refine s_putW hF rfl rfl (size_wide wide59) m2 rfl (one2 h1v) fun w18 m2 o19 => ?_
  have so19 := o19.size
  have hB := hB.trans (o19.below (by omega))
  have hA := hA.only o19 (by omega)
  refine hF.v (x_assign rfl) fun a hF => ?_
  refine s_end (hK10 _ _ ?_)
  refine wp_ret (res_ct hF rfl rfl m2 wide59 rfl ⟨_, rfl, ⟨_, v2, nfK s, by rw [hd], ⟨hA.rd, fun h => absurd hn h, fun s' hs' _ => by rw [RS.inj hs hs']; exact ⟨rfl, rfl⟩⟩, fun j h => (hA.own.lt j h).1⟩, hB⟩)

/-- A level with levels in the place of its variables, up to the ith. -/
def instT (c : Int) (ks : List Int) (τ : Nat → SL) : Nat → SL
 | 0 => .num c.toNat
 | i + 1 => if gt ks i = -1 then instT c ks τ i else .mx (instT c ks τ i) (.succ (gt ks i).toNat (τ i))
/-- One that takes a place and is not sound. -/
def bad (ls : List Lv) (K : List Int) (i : Nat) : Prop := i < K.length ∧ gt K i ≠ -1 ∧ ∃ l, ls[i]? = some l ∧ ¬ sndL l

set_option maxRecDepth 100000 in
set_option maxHeartbeats 1600000 in
theorem Inst27 (x : C3) (l : Lv) (xs : List C3) (ls : List Lv) (v : Value) (τ : Nat → SL) (w0 : World) (hL : RL w0 x l) (hV : Rd w0 v 3 xs.length (xs.flatMap lc)) (hls : xs.length = ls.length) (hl : ∀ (i : Nat) x l, xs[i]? = some x → ls[i]? = some l → RL w0 x l) (hτ : ∀ (i : Nat) x l, xs[i]? = some x → ls[i]? = some l → sndL l → RS w0 (τ i) x ∧ (τ i).good) (hτ2 : ∀ i, xs.length ≤ i → τ i = .var i) : Calls Try.prog 64 #[lv x, v] w0 fun e w' => ∃ u, e = .returned u ∧ (∃ z, u = lv z ∧ (¬ sndL l → z = (0, 0, .slice none 0 0)) ∧ ∀ s, RS w0 s x → s.good → ((∃ i, bad ls (nfK s) i) → z = (0, 0, .slice none 0 0)) ∧ ((¬ ∃ i, bad ls (nfK s) i) → RSn w' (fun k => w0.heap.size ≤ k) (levF (nfC (instT (nfC s) (nfK s) τ (nfK s).length)) (nfK (instT (nfC s) (nfK s) τ (nfK s).length))) z)) ∧ Below w0.heap.size w0 w' := by
 obtain ⟨av, cv, rfl, _⟩ := hV.form
 have hB := Below.refl w0.heap.size w0
 have sB := hB.size
 refine calls_fs 60 [(0, lv x), (1, .slice av xs.length cv)] Try.func64 rfl rfl rfl rfl rfl fun a hF => ?_
 refine wp_rs fun K1 hK1 => ?_
 refine s_box (lc x) hF (by decide) rfl rfl fun w2 b2 a eb2 m2 B3 zb2 hF => ?_
 have sB3 := B3.size
 have hB := bt hB B3
 refine s_alloc hF (by decide) zero24 fun w4 b4 a eb4 m4 B5 zb4 hF => ?_
 have sB5 := B5.size
 have hB := bt hB B5
 have m2 := m2.old B5
 refine s_end (hK1 _ _ ?_)
 rcases (show decide (sndL l) = false ∨ decide (sndL l) = true by cases decide (sndL l) <;> simp) with hd | hd
 ·
  have hn : ¬ sndL l := of_decide_eq_false hd
  refine wp_rs fun K3 hK3 => ?_
  refine hF.v (x_ldW wide24 m2 rfl rfl) fun a hF => ?_
  have hB9 := hB
  refine s_callR (R := fun v w' => ∃ c vk ks, v = .tuple #[.agg [.int .i64 c, vk].toArray, .bool (decide (sndL l))] ∧ FF w4 x l w' c vk ks) [_] hF E106 rfl (by decide) (formOf38 x l w4 (hL.old hB)) ?_
  rintro _ w6 a ⟨c1, vk1, ks1, rfl, hf1⟩ B7 hF
  have sB7 := B7.size
  have hB := bt hB B7
  have m4 := m4.old B7
  have h1v1 := hf1.1.one
  rw [hd] at hF
  refine hF.v (x_move rfl) fun a hF => ?_
  refine hF.v (x_ext rfl rfl) fun a hF => ?_
  refine hF.v (x_ext rfl rfl) fun a hF => ?_
  refine s_alloc hF (by decide) zero59 fun w8 b5 a eb5 m5 B9 zb5 hF => ?_
  have sB9 := B9.size
  have hB := bt hB B9
  have m4 := m4.old B9
  refine s_putW hF rfl rfl (size_wide wide59) m5 rfl (one2 h1v1) fun w10 m5 o11 => ?_
  have so11 := o11.size
  have hB := hB.trans (o11.below (by omega))
  have m4 := m4.only o11 (by omega)
  refine hF.v (x_assign rfl) fun a hF => ?_
  refine s_end (hK3 _ _ ?_)
  refine wp_seq_k fun K4 hK4 => ?_
  refine wp_rs fun K5 hK5 => ?_
  refine hF.v (x_move rfl) fun a hF => ?_
  refine hF.v (x_not rfl) fun a hF => ?_
  refine s_end (hK5 _ _ ?_)
  refine wp_if hF rfl ?_
  refine wp_rs fun K6 hK6 => ?_
  refine hF.v (x_build (vs := []) rfl (b24_ _)) fun a hF => ?_
  refine s_putW hF rfl rfl (size_wide wide24) m4 rfl (one3 rfl) fun w12 m4 o13 => ?_
  have so13 := o13.size
  have hB := hB.trans (o13.below (by omega))
  refine s_end (hK6 _ _ ?_)
  refine wp_ret (then_ret (res_cell hF rfl rfl m4 wide24 ⟨_, rfl, ⟨(0, 0, .slice none 0 0), rfl, fun _ => rfl, fun s hs hsg => absurd (rs_snd hL hs hsg) hn⟩, hB⟩))
 ·
  have hn : sndL l := of_decide_eq_true hd
  obtain ⟨s, hs, hsg⟩ := sound_sl hL hn
  have hsl := nfK_len s hsg
  refine wp_rs fun K7 hK7 => ?_
  refine hF.v (x_ldW wide24 m2 rfl rfl) fun a hF => ?_
  have hB9 := hB
  refine s_callR (R := fun v w' => ∃ c vk ks, v = .tuple #[.agg [.int .i64 c, vk].toArray, .bool (decide (sndL l))] ∧ FF w4 x l w' c vk ks) [_] hF E106 rfl (by decide) (formOf38 x l w4 (hL.old hB)) ?_
  rintro _ w14 a ⟨c1, vk1, ks1, rfl, hf1⟩ B15 hF
  have sB15 := B15.size
  have hB := bt hB B15
  have m4 := m4.old B15
  have h1v1 := hf1.1.one
  rw [hd] at hF
  obtain ⟨rfl, rfl⟩ := hf1.2.2 s (RS.below hB9 hs) hsg
  obtain ⟨ak, ck, hvk, _⟩ := hf1.1.form
  subst hvk
  have hB1 := Below.refl w14.heap.size w14
  refine hF.v (x_move rfl) fun a hF => ?_
  refine hF.v (x_ext rfl rfl) fun a hF => ?_
  refine hF.v (x_ext rfl rfl) fun a hF => ?_
  refine s_alloc hF (by decide) zero59 fun w16 b5 a eb5 m5 B17 zb5 hF => ?_
  have sB17 := B17.size
  have hB := bt hB B17
  have hB1 := bt hB1 B17
  have m4 := m4.old B17
  refine s_putW hF rfl rfl (size_wide wide59) m5 rfl (one2 h1v1) fun w18 m5 o19 => ?_
  have so19 := o19.size
  have hB := hB.trans (o19.below (by omega))
  have hB1 := hB1.trans (o19.below (by omega))
  have m4 := m4.only o19 (by omega)
  refine hF.v (x_assign rfl) fun a hF => ?_
  refine s_end (hK7 _ _ ?_)
  refine wp_seq_k fun K8 hK8 => ?_
  refine wp_rs fun K9 hK9 => ?_
  refine hF.v (x_move rfl) fun a hF => ?_
  refine hF.v (x_not rfl) fun a hF => ?_
  refine s_end (hK9 _ _ ?_)
  refine wp_if hF rfl ?_
  refine wp_skip (hK8 _ _ ?_)
  refine wp_rs fun K10 hK10 => ?_
  refine hF.v (x_fa0 fa59_0 rfl) fun a hF => ?_
  refine hF.v (x_load rfl (m_load flat3 (m5.cell (j := 0) rfl))) fun a hF => ?_
  refine hF.v (x_build (vs := [(0, _)]) rfl (b59_0 _ _)) fun a hF => ?_
  refine s_alloc hF (by decide) zero59 fun w20 b7 a eb7 m7 B21 zb7 hF => ?_
  have sB21 := B21.size
  have hB := bt hB B21
  have hB1 := bt hB1 B21
  have m4 := m4.old B21
  have m5 := m5.old B21
  refine s_putW hF rfl rfl (size_wide wide59) m7 rfl (one2 rfl) fun w22 m7 o23 => ?_
  have so23 := o23.size
  have hB := hB.trans (o23.below (by omega))
  have hB1 := hB1.trans (o23.below (by omega))
  have m4 := m4.only o23 (by omega)
  have m5 := m5.only o23 (by omega)
  refine s_end (hK10 _ _ ?_)
  refine wp_seq_k fun K11 hK11 => ?_
  refine wp_rs fun K12 hK12 => ?_
  refine hF.v (x_fa0 fa59_1 rfl) fun a hF => ?_
  refine hF.v (x_load rfl (m_load flat29 (m5.cell (j := 1) rfl))) fun a hF => ?_
  refine hF.v (x_len Try.underlying92 rfl) fun a hF => ?_
  refine hF.v (x_move rfl) fun a hF => ?_
  refine s_end (hK12 _ _ ?_)
  refine wp_block ?_
  have hA7 := FA.start (base := w14.heap.size) m7 (by omega)
  have hbb : w0.heap.size ≤ b4 ∧ b4 < b5 ∧ b5 < b7 ∧ w14.heap.size ≤ b7 ∧ b4 < w14.heap.size := ⟨by omega, by omega, by omega, by omega, by omega⟩
  refine wp_up (nfK s).length (fun i a w => ∃ v' o' c L, FA 126 w14.heap.size w b7 o' v' c L ∧ IsF c L (instT (nfC s) (nfK s) τ i) ∧ L.length ≤ 1001 ∧ (o' = b7 ∨ b7 < o') ∧ (∀ j, j < i → ¬ bad ls (nfK s) j) ∧ Blk w b4 24 [.int .i64 0, .int .i64 0, .slice none 0 0] ∧ Below w0.heap.size w0 w ∧ Below w14.heap.size w14 w ∧ Fs 60 a [(26, .int .i64 (i : Int)), (25, .int .i64 ((nfK s).length : Int)), (24, .slice ak (nfK s).length ck), (1, .slice av xs.length cv), (4, .pointer (some ⟨b4, 0, none⟩)), (7, .pointer (some ⟨b7, 0, none⟩))]) ⟨_, b7, _, [], hA7, isF_start (nfC s) (nfC_nn s) (nfC_le s), by decide, .inl rfl, (fun j h => by omega), m4, hB, hB1, hF.sub _ rfl⟩ ?_
  repeat clear hF
  clear hB hB1 m4 hA7
  rintro i a w hi ⟨vv, o2, c, L, hA, hIF, hLl, ho2, hnb, m4, hB, hB1, hF⟩ K' hK'
  have sB := hB.size
  have sB1 := hB1.size
  have hlo := hA.lo
  have hgl := hA.lt
  have hc0 := hIF.nn
  have hc1 := hIF.hi
  refine wp_rs fun K13 hK13 => ?_
  refine hF.v (x_lss (b := decide (i < (nfK s).length)) (decide_eq_decide.2 (by omega)) rfl rfl) fun a hF => ?_
  refine s_end (hK13 _ _ ?_)
  refine wp_seq_k fun K14 hK14 => ?_
  refine wp_iff hF rfl (fun hc27 => ?_) (fun hc27 => ?_)
  ·
   obtain ⟨b8, off8, c8, hve, hrow⟩ := rd_rowI hf1.1 (i := i) (by omega)
   cases hve
   have hgi := (nfK_lo s).gt i
   have hgh := nfK_hi s i
   refine wp_skip (hK14 _ _ ?_)
   refine wp_seq_k fun K15 hK15 => ?_
   refine wp_block ?_
   refine wp_rs fun K16 hK16 => ?_
   refine hF.v (x_move rfl) fun a hF => ?_
   refine hF.v (x_ixa rfl rfl (m_ixs i Try.underlying92 el29.size rfl (by omega))) fun a hF => ?_
   refine hF.v (x_load rfl (m_load flat3 (hrow _ hB1))) fun a hF => ?_
   refine hF.v (x_assign rfl) fun a hF => ?_
   refine hF.v (x_assign rfl) fun a hF => ?_
   refine s_end (hK16 _ _ ?_)
   refine wp_block ?_
   rcases (show gt (nfK s) i = -1 ∨ (gt (nfK s) i ≠ -1 ∧ xs.length ≤ i) ∨ (gt (nfK s) i ≠ -1 ∧ i < xs.length) by omega) with hg | ⟨hc45, hg⟩ | ⟨hc45, hg⟩
   ·
    have hnb2 : ∀ j, j < i + 1 → ¬ bad ls (nfK s) j := by
     intro j hj hb
     rcases Nat.lt_or_ge j i with h | h
     ·
      exact hnb j h hb
     ·
      have hji : j = i := by omega
      subst hji
      exact hb.2.1 hg
    have hIF2 : IsF c L (instT (nfC s) (nfK s) τ (i + 1)) := by rw [instT, if_pos hg]; exact hIF
    have hLl2 := hLl
    have ho3 : o2 = o2 ∨ w.heap.size ≤ o2 := .inl rfl
    refine wp_rs fun K18 hK18 => ?_
    refine hF.v (x_move rfl) fun a hF => ?_
    refine hF.v (eqlT (by omega) rfl rfl) fun a hF => ?_
    refine hF.v (x_assign rfl) fun a hF => ?_
    refine s_end (hK18 _ _ ?_)
    refine wp_if hF rfl ?_
    refine wp_skip (hK15 _ _ ?_)
    refine wp_region_lit ?_
    refine hF.v (x_addn (i + 1) (by omega) (by omega) rfl rfl) fun a hF => ?_
    refine hF.v (x_move rfl) fun a hF => ?_
    refine s_end (hK' _ _ (by omega) ⟨_, _, _, _, hA, hIF2, hLl2, by omega, hnb2, m4, hB, hB1, hF.sub _ rfl⟩)
   ·
    have hstep : instT (nfC s) (nfK s) τ (i + 1) = .mx (instT (nfC s) (nfK s) τ i) (.succ (gt (nfK s) i).toNat (τ i)) := by rw [instT, if_neg hc45]
    have hnb2 : ∀ j, j < i + 1 → ¬ bad ls (nfK s) j := by
     intro j hj hb
     rcases Nat.lt_or_ge j i with h | h
     ·
      exact hnb j h hb
     ·
      have hji : j = i := by omega
      subst hji
      exact by obtain ⟨_, _, l9, h9, _⟩ := hb; have := (List.getElem?_eq_some_iff.1 h9).1; omega
    refine wp_rs fun K19 hK19 => ?_
    refine hF.v (x_move rfl) fun a hF => ?_
    refine hF.v (eqlF (by omega) rfl rfl) fun a hF => ?_
    refine hF.v (x_assign rfl) fun a hF => ?_
    refine s_end (hK19 _ _ ?_)
    refine wp_if hF rfl ?_
    refine wp_rs fun K20 hK20 => ?_
    refine hF.v (x_move rfl) fun a hF => ?_
    refine hF.v (x_move rfl) fun a hF => ?_
    refine hF.v (x_len Try.underlying22 rfl) fun a hF => ?_
    refine hF.v (geqT (by omega) rfl rfl) fun a hF => ?_
    refine hF.v (x_assign rfl) fun a hF => ?_
    refine s_end (hK20 _ _ ?_)
    refine wp_if hF rfl ?_
    refine wp_region_lit ?_
    refine hF.v (x_move rfl) fun a hF => ?_
    refine hF.v (x_move rfl) fun a hF => ?_
    refine s_call (R := fun u w' => (u = .tuple #[] ∧ ∃ v' o', FA 126 w14.heap.size w' b7 o' v' c (up L i (gt (nfK s) i)) ∧ (o' = o2 ∨ w.heap.size ≤ o')) ∧ Ktw b7 o2 w w') hF [_, _, _] E107 rfl (by decide) (raiseVar48 w14.heap.size b7 o2 vv c L i (gt (nfK s) i) w hA (by omega) (by omega)) ?_
    rintro _ w24 a ⟨⟨rfl, v3, o3, hA, ho3⟩, k25⟩ hF
    have sk25 := k25.size
    have hB := k25.under hB (by omega)
    have hB1 := k25.under hB1 (by omega)
    have m4 := m4.k2 k25 (by omega)
    have hIF2 := isF_var hIF i (gt (nfK s) i).toNat (by omega)
    rw [show (((gt (nfK s) i).toNat : Nat) : Int) = gt (nfK s) i by omega, ← hτ2 i (by omega), ← hstep] at hIF2
    have hLl2 : (up L i (gt (nfK s) i)).length ≤ 1001 := by rw [up_len]; omega
    refine s_end (hK15 _ _ ?_)
    refine wp_region_lit ?_
    refine hF.v (x_addn (i + 1) (by omega) (by omega) rfl rfl) fun a hF => ?_
    refine hF.v (x_move rfl) fun a hF => ?_
    refine s_end (hK' _ _ (by omega) ⟨_, _, _, _, hA, hIF2, hLl2, by omega, hnb2, m4, hB, hB1, hF.sub _ rfl⟩)
   ·
    have hstep : instT (nfC s) (nfK s) τ (i + 1) = .mx (instT (nfC s) (nfK s) τ i) (.succ (gt (nfK s) i).toNat (τ i)) := by rw [instT, if_neg hc45]
    obtain ⟨b6, off6, c6, y, hve, hy, hrowv⟩ := rd_row3 hV (i := i) hg
    cases hve
    obtain ⟨ly, hli⟩ : ∃ ly, ls[i]? = some ly := ⟨_, List.getElem?_eq_getElem (by omega)⟩
    have hyl := hl i y ly hy hli
    have hi1 : i < (nfK s).length := hc27
    refine wp_rs fun K21 hK21 => ?_
    refine hF.v (x_move rfl) fun a hF => ?_
    refine hF.v (eqlF (by omega) rfl rfl) fun a hF => ?_
    refine hF.v (x_assign rfl) fun a hF => ?_
    refine s_end (hK21 _ _ ?_)
    refine wp_if hF rfl ?_
    refine wp_rs fun K22 hK22 => ?_
    refine hF.v (x_move rfl) fun a hF => ?_
    refine hF.v (x_move rfl) fun a hF => ?_
    refine hF.v (x_len Try.underlying22 rfl) fun a hF => ?_
    refine hF.v (geqF (by omega) rfl rfl) fun a hF => ?_
    refine hF.v (x_assign rfl) fun a hF => ?_
    refine s_end (hK22 _ _ ?_)
    refine wp_if hF rfl ?_
    rcases (show decide (sndL ly) = false ∨ decide (sndL ly) = true by cases decide (sndL ly) <;> simp) with hd2 | hd2
    ·
     have hnl : ¬ sndL ly := of_decide_eq_false hd2
     refine wp_rs fun K24 hK24 => ?_
     refine hF.v (x_move rfl) fun a hF => ?_
     refine hF.v (x_move rfl) fun a hF => ?_
     refine hF.v (x_ixa rfl rfl (m_ixsK i Try.underlying22 el22.size rfl (by omega))) fun a hF => ?_
     refine hF.v (x_ldA wide24 (hrowv _ hB) rfl rfl) fun a hF => ?_
     have hB8 := hB
     refine s_callR (R := fun v w' => ∃ c vk ks, v = .tuple #[.agg [.int .i64 c, vk].toArray, .bool (decide (sndL ly))] ∧ FF w y ly w' c vk ks ∧ ∀ j, vk.ownBlock = some j → w.heap.size ≤ j) [_] hF E106 rfl (by decide) (formOf38y y ly w (hyl.old hB)) ?_
     rintro _ w26 a ⟨c2, vk2, ks2, rfl, hf2, hyo⟩ B27 hF
     have sB27 := B27.size
     have hB := bt hB B27
     have m4 := m4.old B27
     have h1v2 := hf2.1.one
     rw [hd2] at hF
     have hV2 := hf2.1
     have hV2q : ∀ j, vk2.ownBlock = some j → 0 < ks2.length → j < w26.heap.size := fun j h h0 => hV2.lt h0 h
     refine hF.v (x_move rfl) fun a hF => ?_
     refine hF.v (x_ext rfl rfl) fun a hF => ?_
     refine hF.v (x_ext rfl rfl) fun a hF => ?_
     refine s_alloc hF (by decide) zero59 fun w28 b10 a eb10 m10 B29 zb10 hF => ?_
     have sB29 := B29.size
     have hB := bt hB B29
     have m4 := m4.old B29
     refine s_putW hF rfl rfl (size_wide wide59) m10 rfl (one2 h1v2) fun w30 m10 o31 => ?_
     have so31 := o31.size
     have hB := hB.trans (o31.below (by omega))
     have m4 := m4.only o31 (by omega)
     refine hF.v (x_assign rfl) fun a hF => ?_
     refine s_end (hK24 _ _ ?_)
     refine wp_seq_k fun K25 hK25 => ?_
     refine wp_rs fun K26 hK26 => ?_
     refine hF.v (x_move rfl) fun a hF => ?_
     refine hF.v (x_not rfl) fun a hF => ?_
     refine s_end (hK26 _ _ ?_)
     refine wp_if hF rfl ?_
     refine wp_rs fun K27 hK27 => ?_
     refine hF.v (x_build (vs := []) rfl (b24_ _)) fun a hF => ?_
     refine s_putW hF rfl rfl (size_wide wide24) m4 rfl (one3 rfl) fun w32 m4 o33 => ?_
     have so33 := o33.size
     have hB := hB.trans (o33.below (by omega))
     refine s_end (hK27 _ _ ?_)
     refine wp_ret (then_ret (inb_ret (inb_ret (then_ret (then_ret (inb_ret (then_ret (res_cell hF rfl rfl m4 wide24 ⟨_, rfl, ⟨(0, 0, .slice none 0 0), rfl, fun _ => rfl, fun s' hs' _ => ?_⟩, hB⟩))))))))
     obtain rfl := RS.inj hs hs'
     exact ⟨fun _ => rfl, fun h => absurd ⟨i, hi1, hc45, _, hli, hnl⟩ h⟩
    ·
     have hnl : sndL ly := of_decide_eq_true hd2
     have hti := hτ i y ly hy hli hnl
     have hnb2 : ∀ j, j < i + 1 → ¬ bad ls (nfK s) j := by
      intro j hj hb
      rcases Nat.lt_or_ge j i with h | h
      ·
       exact hnb j h hb
      ·
       have hji : j = i := by omega
       subst hji
       exact by obtain ⟨_, _, l9, h9, h10⟩ := hb; rw [hli] at h9; cases h9; exact h10 hnl
     refine wp_rs fun K28 hK28 => ?_
     refine hF.v (x_move rfl) fun a hF => ?_
     refine hF.v (x_move rfl) fun a hF => ?_
     refine hF.v (x_ixa rfl rfl (m_ixsK i Try.underlying22 el22.size rfl (by omega))) fun a hF => ?_
     refine hF.v (x_ldA wide24 (hrowv _ hB) rfl rfl) fun a hF => ?_
     have hB8 := hB
     refine s_callR (R := fun v w' => ∃ c vk ks, v = .tuple #[.agg [.int .i64 c, vk].toArray, .bool (decide (sndL ly))] ∧ FF w y ly w' c vk ks ∧ ∀ j, vk.ownBlock = some j → w.heap.size ≤ j) [_] hF E106 rfl (by decide) (formOf38y y ly w (hyl.old hB)) ?_
     rintro _ w34 a ⟨c2, vk2, ks2, rfl, hf2, hyo⟩ B35 hF
     have sB35 := B35.size
     have hB := bt hB B35
     have hB1 := bt hB1 B35
     have m4 := m4.old B35
     have hA := hA.below B35
     have h1v2 := hf2.1.one
     rw [hd2] at hF
     have hV2 := hf2.1
     obtain ⟨rfl, rfl⟩ := hf2.2.2 (τ i) (RS.below hB8 hti.1) hti.2
     have hV2q : ∀ j, vk2.ownBlock = some j → 0 < (nfK (τ i)).length → j < w34.heap.size := fun j h h0 => hV2.lt h0 h
     refine hF.v (x_move rfl) fun a hF => ?_
     refine hF.v (x_ext rfl rfl) fun a hF => ?_
     refine hF.v (x_ext rfl rfl) fun a hF => ?_
     refine s_alloc hF (by decide) zero59 fun w36 b10 a eb10 m10 B37 zb10 hF => ?_
     have sB37 := B37.size
     have hB := bt hB B37
     have hB1 := bt hB1 B37
     have m4 := m4.old B37
     have hA := hA.below B37
     have hV2 := hV2.below B37
     refine s_putW hF rfl rfl (size_wide wide59) m10 rfl (one2 h1v2) fun w38 m10 o39 => ?_
     have so39 := o39.size
     have hB := hB.trans (o39.below (by omega))
     have hB1 := hB1.trans (o39.below (by omega))
     have m4 := m4.only o39 (by omega)
     have hA := hA.only o39 (by omega)
     have hV2 := rd_onlyZ hV2 o39 (fun j h hp => by have := hV2q j h hp; omega)
     refine hF.v (x_assign rfl) fun a hF => ?_
     refine s_end (hK28 _ _ ?_)
     refine wp_seq_k fun K29 hK29 => ?_
     refine wp_rs fun K30 hK30 => ?_
     refine hF.v (x_move rfl) fun a hF => ?_
     refine hF.v (x_not rfl) fun a hF => ?_
     refine s_end (hK30 _ _ ?_)
     refine wp_if hF rfl ?_
     refine wp_skip (hK29 _ _ ?_)
     refine wp_region_lit ?_
     refine hF.v (x_ldW wide59 m10 rfl rfl) fun a hF => ?_
     refine hF.v (x_move rfl) fun a hF => ?_
     refine s_call (R := fun u w' => (u = .tuple #[] ∧ ∃ v' o', FA 126 w14.heap.size w' b7 o' v' (max c (cut (gt (nfK s) i + nfC (τ i)))) (jn L (nfK (τ i)) (gt (nfK s) i) (nfK (τ i)).length) ∧ (o' = o2 ∨ w38.heap.size ≤ o')) ∧ Ktw b7 o2 w38 w') hF [_, _, _] E108 rfl (by decide) (raiseForm46g w14.heap.size b7 o2 vv c L (nfC (τ i)) vk2 (nfK (τ i)) (gt (nfK s) i) w38 (by omega) (by omega) (nfC_nn _) (nfC_le _) hLl (nfK_len _ hti.2) (nfK_lo _) (nfK_hi _) hV2 (fun j h => by have := hyo j h; omega) hA) ?_
     rintro _ w40 a ⟨⟨rfl, v3, o3, hA, ho3⟩, k41⟩ hF
     have sk41 := k41.size
     have hB := k41.under hB (by omega)
     have hB1 := k41.under hB1 (by omega)
     have m4 := m4.k2 k41 (by omega)
     have hIF2 := isF_form hIF (τ i) (gt (nfK s) i).toNat
     rw [show (((gt (nfK s) i).toNat : Nat) : Int) = gt (nfK s) i by omega, ← hstep] at hIF2
     have hLl2 : (jn L (nfK (τ i)) (gt (nfK s) i) (nfK (τ i)).length).length ≤ 1001 := by have := jn_len (L := L) (G := nfK (τ i)) (gt (nfK s) i) (nfK (τ i)).length; have := nfK_len _ hti.2; omega
     refine s_end (hK15 _ _ ?_)
     refine wp_region_lit ?_
     refine hF.v (x_addn (i + 1) (by omega) (by omega) rfl rfl) fun a hF => ?_
     refine hF.v (x_move rfl) fun a hF => ?_
     refine s_end (hK' _ _ (by omega) ⟨_, _, _, _, hA, hIF2, hLl2, by omega, hnb2, m4, hB, hB1, hF.sub _ rfl⟩)
  ·
   obtain rfl : i = (nfK s).length := by omega
   refine wp_exit (hK11 _ _ ?_)
   refine wp_rs fun K31 hK31 => ?_
   rw [hIF.ks] at hA
   refine s_call (R := fun u w' => (u = .tuple #[] ∧ FA 126 w14.heap.size w' b7 o2 vv (setl c (nfK (instT (nfC s) (nfK s) τ (nfK s).length))) (nfK (instT (nfC s) (nfK s) τ (nfK s).length))) ∧ Ktw b7 o2 w w') hF [_] E109 rfl (by decide) (settle47 w14.heap.size b7 o2 vv c _ w hA (by rw [← hIF.ks]; omega) (nfK_lo _) hc0) ?_
   rintro _ w42 a ⟨⟨rfl, hA⟩, k43⟩ hF
   have sk43 := k43.size
   have hB := k43.under hB (by omega)
   have m4 := m4.k2 k43 (by omega)
   rw [show setl c (nfK (instT (nfC s) (nfK s) τ (nfK s).length)) = nfC (instT (nfC s) (nfK s) τ (nfK s).length) from (by have := hIF.set; rw [hIF.ks] at this; exact this)] at hA
   have m7 := hA.blk
   refine s_end (hK31 _ _ ?_)
   refine wp_rs fun K32 hK32 => ?_
   refine hF.v (x_ldW wide59 m7 rfl rfl) fun a hF => ?_
   refine s_callR (R := fun u w' => ∃ z, u = lv z ∧ RSn w' (fun k => w42.heap.size ≤ k) (levF (nfC (instT (nfC s) (nfK s) τ (nfK s).length)) (nfK (instT (nfC s) (nfK s) τ (nfK s).length))) z) [_] hF E110 rfl (by decide) (level41 _ _ vv w42 (nfC_nn _) (by rw [← hIF.ks]; exact hLl) (nfK_lo _) (nfK_tm _) hA.rd) ?_
   rintro _ w44 a ⟨z, rfl, hz⟩ B45 hF
   have sB45 := B45.size
   have hB := bt hB B45
   have m4 := m4.old B45
   have h1z := hz.rs.one1
   refine s_putW hF rfl rfl (size_wide wide24) m4 rfl (one_lc h1z) fun w46 m4 o47 => ?_
   have so47 := o47.size
   have hB := hB.trans (o47.below (by omega))
   have hz := hz.only o47 (fun k (hk : w42.heap.size ≤ k) => by omega)
   refine s_end (hK32 _ _ ?_)
   refine wp_ret (res_cell hF rfl rfl m4 wide24 ⟨_, rfl, ⟨z, rfl, fun h => absurd hn h, fun s' hs' _ => ?_⟩, hB⟩)
   obtain rfl := RS.inj hs hs'
   exact ⟨fun ⟨j, hj⟩ => absurd hj (hnb j hj.1), fun _ => hz.mono (fun k hk => by omega)⟩
end Go.Proofs.Ytbhhbfdoadecgaa
