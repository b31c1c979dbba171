/- raiseForm, formOf, Norm, same, Equal, Leq. -/
import Derived.Test.YtgpciphjhnabcaaLev5
namespace Go.Proofs.Ytgpciphjhnabcaa
open Go.RowKit Go.Shelf
set_option linter.unusedVariables false
set_option linter.unusedSimpArgs false

/-- What formOf tells. -/
def FF (w0 : World) (x : C3) (l : Lv) (w' : World) (c : Int) (vk : Value) (ks : List Int) : Prop := Rd w' vk 1 ks.length (ints ks) ∧ (¬ sndL l → c = 0 ∧ ks = []) ∧ ∀ s, RS w0 s x → s.good → c = nfC s ∧ ks = nfK s

set_option maxRecDepth 100000 in
set_option maxHeartbeats 1600000 in
theorem formOf38 (x : C3) (l : Lv) (w0 : World) (hL : RL w0 x l) : Calls Try.prog 125 #[lv x] w0 fun e w' => ∃ v, e = .returned v ∧ (∃ c vk ks, v = .tuple #[.agg [.int .i64 c, vk].toArray, .bool (decide (sndL l))] ∧ FF w0 x l w' c vk ks) ∧ Below w0.heap.size w0 w' := by
  have hB := Below.refl w0.heap.size w0
  have sB := hB.size
  refine calls_fs 13 [(0, lv x)] Try.func125 rfl rfl rfl rfl rfl fun a hF => ?_
  refine wp_rs fun K1 hK1 => ?_
  refine s_box (lc x) hF (by decide) rfl rfl fun w2 b1 a eb1 m1 B3 zb1 hF => ?_
  have sB3 := B3.size
  have hB := hB.trans (B3.mono hB.size)
  refine s_alloc hF (by decide) zero59 fun w4 b2 a eb2 m2 B5 zb2 hF => ?_
  have sB5 := B5.size
  have hB := hB.trans (B5.mono hB.size)
  have m1 := m1.old B5
  refine s_val hF (x_assign rfl) (by decide) fun a hF => ?_
  refine s_end (hK1 _ _ ?_)
  refine wp_seq_k fun K2 hK2 => ?_
  rcases (show decide (sndL l) = false ∨ decide (sndL l) = true by cases decide (sndL l) <;> simp) with hd | hd
  · have hn : ¬ sndL l := of_decide_eq_false hd
    refine wp_rs fun K4 hK4 => ?_
    refine s_val hF (x_ldW wide24 m1 rfl rfl) (by decide) fun a hF => ?_
    refine s_callB [_] hF (enters_of Try.func138 (by kernel_rfl) rfl) rfl (by decide) (isSound49 x l w4 (hL.old hB)) fun w6 a B7 hF => ?_
    have sB7 := B7.size
    have hB := hB.trans (B7.mono hB.size)
    have m1 := m1.old B7
    have m2 := m2.old B7
    rw [hd] at hF
    refine s_val hF (x_not rfl) (by decide) fun a hF => ?_
    refine s_end (hK4 _ _ ?_)
    refine wp_if hF rfl ?_
    refine wp_rs fun K5 hK5 => ?_
    refine s_val hF (x_build (vs := []) rfl (b59_ _)) (by decide) fun a hF => ?_
    refine s_putW hF rfl rfl (size_wide wide59) m2 rfl (one2 rfl) fun w8 m2 o9 => ?_
    have so9 := o9.size
    have hB := hB.trans (o9.below (by omega))
    have m1 := m1.only o9 (by omega)
    refine s_val hF (x_assign rfl) (by decide) fun a hF => ?_
    refine s_end (hK5 _ _ ?_)
    refine wp_ret (then_ret (res_ct hF rfl rfl m2 wide59 rfl ⟨_, rfl, ⟨_, _, [], by rw [hd], Rd.nil _ _, fun _ => ⟨rfl, rfl⟩, fun s hs hsg => absurd (rs_snd hL hs hsg) hn⟩, hB⟩))
  · have hn : sndL l := of_decide_eq_true hd
    obtain ⟨s, hs, hsg⟩ := sound_sl hL hn
    refine wp_rs fun K6 hK6 => ?_
    refine s_val hF (x_ldW wide24 m1 rfl rfl) (by decide) fun a hF => ?_
    refine s_callB [_] hF (enters_of Try.func138 (by kernel_rfl) rfl) rfl (by decide) (isSound49 x l w4 (hL.old hB)) fun w10 a B11 hF => ?_
    have sB11 := B11.size
    have hB := hB.trans (B11.mono hB.size)
    have m1 := m1.old B11
    have m2 := m2.old B11
    rw [hd] at hF
    refine s_val hF (x_not rfl) (by decide) fun a hF => ?_
    refine s_end (hK6 _ _ ?_)
    refine wp_if hF rfl ?_
    refine wp_skip (hK2 _ _ ?_)
    refine wp_rs fun K7 hK7 => ?_
    refine s_alloc hF (by decide) zero59 fun w12 b4 a eb4 m4 B13 zb4 hF => ?_
    have sB13 := B13.size
    have hB := hB.trans (B13.mono hB.size)
    have m1 := m1.old B13
    have m2 := m2.old B13
    refine s_end (hK7 _ _ ?_)
    refine wp_rs fun K8 hK8 => ?_
    refine s_val hF (x_ldW wide24 m1 rfl rfl) (by decide) fun a hF => ?_
    have hA : FA 126 w0.heap.size w12 b4 b4 (.slice none 0 0) 0 [] := FA.start m4 (by omega)
    refine s_call (R := fun u w' => (u = .tuple #[] ∧ ∃ v' o', FA 126 w0.heap.size w' b4 o' v' (rc s 0 0) (nfK s) ∧ (o' = b4 ∨ w12.heap.size ≤ o')) ∧ Ktw b4 b4 w12 w') hF [_, _, _] (enters_of Try.func139 (by kernel_rfl) rfl) rfl (by decide) (raise59 w0 b4 s x hs hsg.2.2 0 b4 _ 0 [] w12 (by decide) (by decide) (by decide) (by decide) (by decide) hB hA) ?_
    rintro _ w14 a ⟨⟨rfl, v2, o2, hA, ho2⟩, k15⟩ hF
    have sk15 := k15.size
    have hB := k15.under hB (by omega)
    have m1 := m1.k2 k15 (by omega)
    have m2 := m2.k2 k15 (by omega)
    have hlo := hA.lo
    refine s_end (hK8 _ _ ?_)
    refine wp_rs fun K9 hK9 => ?_
    refine s_call (R := fun u w' => (u = .tuple #[] ∧ FA 126 w0.heap.size w' b4 o2 v2 (setl (rc s 0 0) (nfK s)) (nfK s)) ∧ Ktw b4 o2 w14 w') hF [_] (enters_of Try.func128 (by kernel_rfl) rfl) rfl (by decide) (settle47 w0.heap.size b4 o2 v2 _ (nfK s) w14 hA (by have := nfK_len s hsg; omega) (nfK_lo s) (rc_bd (by decide) (by decide) (by decide) (by decide)).1) ?_
    rintro _ w16 a ⟨⟨rfl, hA⟩, k17⟩ hF
    have sk17 := k17.size
    have hB := k17.under hB (by omega)
    have m1 := m1.k2 k17 (by omega)
    have m2 := m2.k2 k17 (by omega)
    rw [nfC_setl] at hA
    have m4 := hA.blk
    have hlo2 := hA.lo
    have h1v := hA.rd.one
    refine s_end (hK9 _ _ ?_)
    refine wp_rs fun K10 hK10 => ?_
    refine s_val hF (x_ldW wide59 m4 rfl rfl) (by decide) fun a hF => ?_
    refine s_putW hF rfl rfl (size_wide wide59) m2 rfl (one2 h1v) fun w18 m2 o19 => ?_
    have so19 := o19.size
    have hB := hB.trans (o19.below (by omega))
    have m1 := m1.only o19 (by omega)
    have hA := hA.only o19 (by omega)
    have m4 := m4.only o19 (by omega)
    refine s_val hF (x_assign rfl) (by decide) fun a hF => ?_
    refine s_end (hK10 _ _ ?_)
    refine wp_ret (res_ct hF rfl rfl m2 wide59 rfl ⟨_, rfl, ⟨_, v2, nfK s, by rw [hd], hA.rd, fun h => absurd hn h, fun s' hs' _ => by rw [RS.inj hs hs']; exact ⟨rfl, rfl⟩⟩, hB⟩)

set_option maxRecDepth 100000 in
set_option maxHeartbeats 1600000 in
theorem same44 (c d : Int) (v u : Value) (ks ls : List Int) (w0 : World) (hl : ks.length ≤ 9223372036854775807) (hV : Rd w0 v 1 ks.length (ints ks)) (hU : Rd w0 u 1 ls.length (ints ls)) : Calls Try.prog 136 #[.agg [.int .i64 c, v].toArray, .agg [.int .i64 d, u].toArray] w0 fun e w' => e = .returned (.bool (decide (c = d ∧ ks = ls))) ∧ Below w0.heap.size w0 w' := by
  have hB := Below.refl w0.heap.size w0
  have sB := hB.size
  refine calls_fs 17 [(0, .agg [.int .i64 c, v].toArray), (1, .agg [.int .i64 d, u].toArray)] Try.func136 rfl rfl rfl rfl rfl fun a hF => ?_
  refine wp_rs fun K1 hK1 => ?_
  refine s_box ([.int .i64 c, v]) hF (by decide) rfl rfl fun w2 b2 a eb2 m2 B3 zb2 hF => ?_
  have sB3 := B3.size
  have hB := hB.trans (B3.mono hB.size)
  refine s_box ([.int .i64 d, u]) hF (by decide) rfl rfl fun w4 b3 a eb3 m3 B5 zb3 hF => ?_
  have sB5 := B5.size
  have hB := hB.trans (B5.mono hB.size)
  have m2 := m2.old B5
  refine s_val hF (x_assign rfl) (by decide) fun a hF => ?_
  refine s_end (hK1 _ _ ?_)
  rcases (show c ≠ d ∨ c = d by omega) with hq | hq
  · skip
    refine wp_rs fun K3 hK3 => ?_
    refine s_val hF (x_fa0 fa59_0 rfl) (by decide) fun a hF => ?_
    refine s_val hF (x_load rfl (m_load flat3 (m2.cell (j := 0) rfl))) (by decide) fun a hF => ?_
    refine s_val hF (x_fa0 fa59_0 rfl) (by decide) fun a hF => ?_
    refine s_val hF (x_load rfl (m_load flat3 (m3.cell (j := 0) rfl))) (by decide) fun a hF => ?_
    refine s_val hF (x_eql (b := false) (decide_eq_false (by omega)) rfl rfl) (by decide) fun a hF => ?_
    refine s_val hF (x_move rfl) (by decide) fun a hF => ?_
    refine s_grdn 10 hF rfl rfl (by decide) fun a hF => ?_
    refine s_grdn 10 hF rfl rfl (by decide) fun a hF => ?_
    refine s_grdn 10 hF rfl rfl (by decide) fun a hF => ?_
    refine s_grdn 10 hF rfl rfl (by decide) fun a hF => ?_
    refine s_grdn 10 hF rfl rfl (by decide) fun a hF => ?_
    refine s_val hF (x_pick (b := false) rfl rfl) (by decide) fun a hF => ?_
    refine s_val hF (x_assign rfl) (by decide) fun a hF => ?_
    refine s_end (hK3 _ _ ?_)
    refine wp_ret (res_slot hF rfl rfl ⟨by simp [hq], hB⟩)
  · skip
    refine wp_rs fun K4 hK4 => ?_
    refine s_val hF (x_fa0 fa59_0 rfl) (by decide) fun a hF => ?_
    refine s_val hF (x_load rfl (m_load flat3 (m2.cell (j := 0) rfl))) (by decide) fun a hF => ?_
    refine s_val hF (x_fa0 fa59_0 rfl) (by decide) fun a hF => ?_
    refine s_val hF (x_load rfl (m_load flat3 (m3.cell (j := 0) rfl))) (by decide) fun a hF => ?_
    refine s_val hF (x_eql (b := true) (decide_eq_true (by omega)) rfl rfl) (by decide) fun a hF => ?_
    refine s_val hF (x_move rfl) (by decide) fun a hF => ?_
    refine s_grd 10 hF rfl rfl rfl ?_
    refine s_val hF (x_fa0 fa59_1 rfl) (by decide) fun a hF => ?_
    refine s_grd 10 hF rfl rfl rfl ?_
    refine s_val hF (x_load rfl (m_load flat29 (m2.cell (j := 1) rfl))) (by decide) fun a hF => ?_
    refine s_grd 10 hF rfl rfl rfl ?_
    refine s_val hF (x_fa0 fa59_1 rfl) (by decide) fun a hF => ?_
    refine s_grd 10 hF rfl rfl rfl ?_
    refine s_val hF (x_load rfl (m_load flat29 (m3.cell (j := 1) rfl))) (by decide) fun a hF => ?_
    refine s_grd 10 hF rfl rfl rfl ?_
    refine s_callB [_, _] hF (enters_of Try.func148 (by kernel_rfl) rfl) rfl (by decide) (equal62 ks ls v u w4 hl (hV.below hB) (hU.below hB)) fun w6 a B7 hF => ?_
    have sB7 := B7.size
    have hB := hB.trans (B7.mono hB.size)
    have m2 := m2.old B7
    have m3 := m3.old B7
    refine s_val hF (x_pick (b := true) rfl rfl) (by decide) fun a hF => ?_
    refine s_val hF (x_assign rfl) (by decide) fun a hF => ?_
    refine s_end (hK4 _ _ ?_)
    refine wp_ret (res_slot hF rfl rfl ⟨by simp [hq], hB⟩)

/-- Two come to one form. -/
def eqF (a b : SL) : Prop := nfC a = nfC b ∧ nfK a = nfK b
instance (a b : SL) : Decidable (eqF a b) := inferInstanceAs (Decidable (_ ∧ _))
/-- What Equal and Leq tell. -/
def TB (w0 : World) (x y : C3) (la lb : Lv) (P : SL → SL → Prop) [∀ s t, Decidable (P s t)] (b : Bool) : Prop := (¬ (sndL la ∧ sndL lb) → b = false) ∧ ∀ s t, RS w0 s x → RS w0 t y → s.good → t.good → b = decide (P s t)
def leS (s t : SL) : Prop := eqF (.mx s t) t
instance (a b : SL) : Decidable (leS a b) := inferInstanceAs (Decidable (eqF _ _))

set_option maxRecDepth 100000 in
set_option maxHeartbeats 1600000 in
theorem Equal23 (x y : C3) (la lb : Lv) (w0 : World) (hLa : RL w0 x la) (hLb : RL w0 y lb) : Calls Try.prog 115 #[lv x, lv y] w0 fun e w' => ∃ v, e = .returned v ∧ (∃ b, v = .bool b ∧ TB w0 x y la lb eqF b) ∧ Below w0.heap.size w0 w' := by
  have hB := Below.refl w0.heap.size w0
  have sB := hB.size
  refine calls_fs 28 [(0, lv x), (1, lv y)] Try.func115 rfl rfl rfl rfl rfl fun a hF => ?_
  refine wp_rs fun K1 hK1 => ?_
  refine s_box (lc x) hF (by decide) rfl rfl fun w2 b2 a eb2 m2 B3 zb2 hF => ?_
  have sB3 := B3.size
  have hB := hB.trans (B3.mono hB.size)
  refine s_box (lc y) hF (by decide) rfl rfl fun w4 b3 a eb3 m3 B5 zb3 hF => ?_
  have sB5 := B5.size
  have hB := hB.trans (B5.mono hB.size)
  have m2 := m2.old B5
  refine s_val hF (x_assign rfl) (by decide) fun a hF => ?_
  refine s_end (hK1 _ _ ?_)
  rcases (show (decide (sndL la) = false ∧ decide (sndL lb) = false) ∨ (decide (sndL la) = false ∧ decide (sndL lb) = true) ∨ (decide (sndL la) = true ∧ decide (sndL lb) = false) ∨ (decide (sndL la) = true ∧ decide (sndL lb) = true) by cases decide (sndL la) <;> cases decide (sndL lb) <;> simp) with ⟨hd1, hd2⟩ | ⟨hd1, hd2⟩ | ⟨hd1, hd2⟩ | ⟨hd1, hd2⟩
  · have hn : ¬ (sndL la ∧ sndL lb) := fun h => by exact absurd h.1 (of_decide_eq_false hd1)
    have hB9 := hB
    refine wp_rs fun K3 hK3 => ?_
    refine s_val hF (x_ldW wide24 m2 rfl rfl) (by decide) fun a hF => ?_
    refine s_callR (R := fun v w' => ∃ c vk ks, v = .tuple #[.agg [.int .i64 c, vk].toArray, .bool (decide (sndL la))] ∧ FF w4 x la w' c vk ks) [_] hF (enters_of Try.func125 (by kernel_rfl) rfl) rfl (by decide) (formOf38 x la w4 (hLa.old hB)) ?_
    rintro _ w6 a ⟨c1, vk1, ks1, rfl, hf1⟩ B7 hF
    have sB7 := B7.size
    have hB := hB.trans (B7.mono hB.size)
    have m2 := m2.old B7
    have m3 := m3.old B7
    have h1v1 := hf1.1.one
    have hB1 := Below.refl w6.heap.size w6
    rw [hd1] at hF
    refine s_val hF (x_move rfl) (by decide) fun a hF => ?_
    refine s_val hF (x_ext rfl rfl) (by decide) fun a hF => ?_
    refine s_val hF (x_ext rfl rfl) (by decide) fun a hF => ?_
    refine s_alloc hF (by decide) zero59 fun w8 b5 a eb5 m5 B9 zb5 hF => ?_
    have sB9 := B9.size
    have hB := hB.trans (B9.mono hB.size)
    have hB1 := hB1.trans (B9.mono hB1.size)
    have m2 := m2.old B9
    have m3 := m3.old B9
    refine s_putW hF rfl rfl (size_wide wide59) m5 rfl (one2 h1v1) fun w10 m5 o11 => ?_
    have so11 := o11.size
    have hB := hB.trans (o11.below (by omega))
    have hB1 := hB1.trans (o11.below (by omega))
    have m2 := m2.only o11 (by omega)
    have m3 := m3.only o11 (by omega)
    refine s_val hF (x_assign rfl) (by decide) fun a hF => ?_
    refine s_end (hK3 _ _ ?_)
    have hB8 := hB
    refine wp_rs fun K4 hK4 => ?_
    refine s_val hF (x_ldW wide24 m3 rfl rfl) (by decide) fun a hF => ?_
    refine s_callR (R := fun v w' => ∃ c vk ks, v = .tuple #[.agg [.int .i64 c, vk].toArray, .bool (decide (sndL lb))] ∧ FF w10 y lb w' c vk ks) [_] hF (enters_of Try.func125 (by kernel_rfl) rfl) rfl (by decide) (formOf38 y lb w10 (hLb.old hB)) ?_
    rintro _ w12 a ⟨c2, vk2, ks2, rfl, hf2⟩ B13 hF
    have sB13 := B13.size
    have hB := hB.trans (B13.mono hB.size)
    have hB1 := hB1.trans (B13.mono hB1.size)
    have m2 := m2.old B13
    have m3 := m3.old B13
    have m5 := m5.old B13
    have h1v2 := hf2.1.one
    have hB2 := Below.refl w12.heap.size w12
    rw [hd2] at hF
    refine s_val hF (x_move rfl) (by decide) fun a hF => ?_
    refine s_val hF (x_ext rfl rfl) (by decide) fun a hF => ?_
    refine s_val hF (x_ext rfl rfl) (by decide) fun a hF => ?_
    refine s_alloc hF (by decide) zero59 fun w14 b7 a eb7 m7 B15 zb7 hF => ?_
    have sB15 := B15.size
    have hB := hB.trans (B15.mono hB.size)
    have hB1 := hB1.trans (B15.mono hB1.size)
    have hB2 := hB2.trans (B15.mono hB2.size)
    have m2 := m2.old B15
    have m3 := m3.old B15
    have m5 := m5.old B15
    refine s_putW hF rfl rfl (size_wide wide59) m7 rfl (one2 h1v2) fun w16 m7 o17 => ?_
    have so17 := o17.size
    have hB := hB.trans (o17.below (by omega))
    have hB1 := hB1.trans (o17.below (by omega))
    have hB2 := hB2.trans (o17.below (by omega))
    have m2 := m2.only o17 (by omega)
    have m3 := m3.only o17 (by omega)
    have m5 := m5.only o17 (by omega)
    refine s_val hF (x_assign rfl) (by decide) fun a hF => ?_
    refine s_end (hK4 _ _ ?_)
    refine wp_rs fun K5 hK5 => ?_
    refine s_val hF (x_move rfl) (by decide) fun a hF => ?_
    refine s_val hF (x_move rfl) (by decide) fun a hF => ?_
    refine s_grdn 20 hF rfl rfl (by decide) fun a hF => ?_
    refine s_val hF (x_pick (b := false) rfl rfl) (by decide) fun a hF => ?_
    refine s_val hF (x_move rfl) (by decide) fun a hF => ?_
    refine s_grdn 23 hF rfl rfl (by decide) fun a hF => ?_
    refine s_grdn 23 hF rfl rfl (by decide) fun a hF => ?_
    refine s_grdn 23 hF rfl rfl (by decide) fun a hF => ?_
    refine s_val hF (x_pick (b := false) rfl rfl) (by decide) fun a hF => ?_
    refine s_val hF (x_assign rfl) (by decide) fun a hF => ?_
    refine s_end (hK5 _ _ ?_)
    refine wp_ret (res_slot hF rfl rfl ⟨_, rfl, ⟨_, rfl, fun _ => rfl, fun s t hs ht g1 g2 => absurd ⟨rs_snd hLa hs g1, rs_snd hLb ht g2⟩ hn⟩, hB⟩)
  · have hn : ¬ (sndL la ∧ sndL lb) := fun h => by exact absurd h.1 (of_decide_eq_false hd1)
    have hB9 := hB
    refine wp_rs fun K6 hK6 => ?_
    refine s_val hF (x_ldW wide24 m2 rfl rfl) (by decide) fun a hF => ?_
    refine s_callR (R := fun v w' => ∃ c vk ks, v = .tuple #[.agg [.int .i64 c, vk].toArray, .bool (decide (sndL la))] ∧ FF w4 x la w' c vk ks) [_] hF (enters_of Try.func125 (by kernel_rfl) rfl) rfl (by decide) (formOf38 x la w4 (hLa.old hB)) ?_
    rintro _ w18 a ⟨c1, vk1, ks1, rfl, hf1⟩ B19 hF
    have sB19 := B19.size
    have hB := hB.trans (B19.mono hB.size)
    have m2 := m2.old B19
    have m3 := m3.old B19
    have h1v1 := hf1.1.one
    have hB1 := Below.refl w18.heap.size w18
    rw [hd1] at hF
    refine s_val hF (x_move rfl) (by decide) fun a hF => ?_
    refine s_val hF (x_ext rfl rfl) (by decide) fun a hF => ?_
    refine s_val hF (x_ext rfl rfl) (by decide) fun a hF => ?_
    refine s_alloc hF (by decide) zero59 fun w20 b5 a eb5 m5 B21 zb5 hF => ?_
    have sB21 := B21.size
    have hB := hB.trans (B21.mono hB.size)
    have hB1 := hB1.trans (B21.mono hB1.size)
    have m2 := m2.old B21
    have m3 := m3.old B21
    refine s_putW hF rfl rfl (size_wide wide59) m5 rfl (one2 h1v1) fun w22 m5 o23 => ?_
    have so23 := o23.size
    have hB := hB.trans (o23.below (by omega))
    have hB1 := hB1.trans (o23.below (by omega))
    have m2 := m2.only o23 (by omega)
    have m3 := m3.only o23 (by omega)
    refine s_val hF (x_assign rfl) (by decide) fun a hF => ?_
    refine s_end (hK6 _ _ ?_)
    have hB8 := hB
    refine wp_rs fun K7 hK7 => ?_
    refine s_val hF (x_ldW wide24 m3 rfl rfl) (by decide) fun a hF => ?_
    refine s_callR (R := fun v w' => ∃ c vk ks, v = .tuple #[.agg [.int .i64 c, vk].toArray, .bool (decide (sndL lb))] ∧ FF w22 y lb w' c vk ks) [_] hF (enters_of Try.func125 (by kernel_rfl) rfl) rfl (by decide) (formOf38 y lb w22 (hLb.old hB)) ?_
    rintro _ w24 a ⟨c2, vk2, ks2, rfl, hf2⟩ B25 hF
    have sB25 := B25.size
    have hB := hB.trans (B25.mono hB.size)
    have hB1 := hB1.trans (B25.mono hB1.size)
    have m2 := m2.old B25
    have m3 := m3.old B25
    have m5 := m5.old B25
    have h1v2 := hf2.1.one
    have hB2 := Below.refl w24.heap.size w24
    rw [hd2] at hF
    refine s_val hF (x_move rfl) (by decide) fun a hF => ?_
    refine s_val hF (x_ext rfl rfl) (by decide) fun a hF => ?_
    refine s_val hF (x_ext rfl rfl) (by decide) fun a hF => ?_
    refine s_alloc hF (by decide) zero59 fun w26 b7 a eb7 m7 B27 zb7 hF => ?_
    have sB27 := B27.size
    have hB := hB.trans (B27.mono hB.size)
    have hB1 := hB1.trans (B27.mono hB1.size)
    have hB2 := hB2.trans (B27.mono hB2.size)
    have m2 := m2.old B27
    have m3 := m3.old B27
    have m5 := m5.old B27
    refine s_putW hF rfl rfl (size_wide wide59) m7 rfl (one2 h1v2) fun w28 m7 o29 => ?_
    have so29 := o29.size
    have hB := hB.trans (o29.below (by omega))
    have hB1 := hB1.trans (o29.below (by omega))
    have hB2 := hB2.trans (o29.below (by omega))
    have m2 := m2.only o29 (by omega)
    have m3 := m3.only o29 (by omega)
    have m5 := m5.only o29 (by omega)
    refine s_val hF (x_assign rfl) (by decide) fun a hF => ?_
    refine s_end (hK7 _ _ ?_)
    refine wp_rs fun K8 hK8 => ?_
    refine s_val hF (x_move rfl) (by decide) fun a hF => ?_
    refine s_val hF (x_move rfl) (by decide) fun a hF => ?_
    refine s_grdn 20 hF rfl rfl (by decide) fun a hF => ?_
    refine s_val hF (x_pick (b := false) rfl rfl) (by decide) fun a hF => ?_
    refine s_val hF (x_move rfl) (by decide) fun a hF => ?_
    refine s_grdn 23 hF rfl rfl (by decide) fun a hF => ?_
    refine s_grdn 23 hF rfl rfl (by decide) fun a hF => ?_
    refine s_grdn 23 hF rfl rfl (by decide) fun a hF => ?_
    refine s_val hF (x_pick (b := false) rfl rfl) (by decide) fun a hF => ?_
    refine s_val hF (x_assign rfl) (by decide) fun a hF => ?_
    refine s_end (hK8 _ _ ?_)
    refine wp_ret (res_slot hF rfl rfl ⟨_, rfl, ⟨_, rfl, fun _ => rfl, fun s t hs ht g1 g2 => absurd ⟨rs_snd hLa hs g1, rs_snd hLb ht g2⟩ hn⟩, hB⟩)
  · have hn : ¬ (sndL la ∧ sndL lb) := fun h => by exact absurd h.2 (of_decide_eq_false hd2)
    have hB9 := hB
    refine wp_rs fun K9 hK9 => ?_
    refine s_val hF (x_ldW wide24 m2 rfl rfl) (by decide) fun a hF => ?_
    refine s_callR (R := fun v w' => ∃ c vk ks, v = .tuple #[.agg [.int .i64 c, vk].toArray, .bool (decide (sndL la))] ∧ FF w4 x la w' c vk ks) [_] hF (enters_of Try.func125 (by kernel_rfl) rfl) rfl (by decide) (formOf38 x la w4 (hLa.old hB)) ?_
    rintro _ w30 a ⟨c1, vk1, ks1, rfl, hf1⟩ B31 hF
    have sB31 := B31.size
    have hB := hB.trans (B31.mono hB.size)
    have m2 := m2.old B31
    have m3 := m3.old B31
    have h1v1 := hf1.1.one
    have hB1 := Below.refl w30.heap.size w30
    rw [hd1] at hF
    refine s_val hF (x_move rfl) (by decide) fun a hF => ?_
    refine s_val hF (x_ext rfl rfl) (by decide) fun a hF => ?_
    refine s_val hF (x_ext rfl rfl) (by decide) fun a hF => ?_
    refine s_alloc hF (by decide) zero59 fun w32 b5 a eb5 m5 B33 zb5 hF => ?_
    have sB33 := B33.size
    have hB := hB.trans (B33.mono hB.size)
    have hB1 := hB1.trans (B33.mono hB1.size)
    have m2 := m2.old B33
    have m3 := m3.old B33
    refine s_putW hF rfl rfl (size_wide wide59) m5 rfl (one2 h1v1) fun w34 m5 o35 => ?_
    have so35 := o35.size
    have hB := hB.trans (o35.below (by omega))
    have hB1 := hB1.trans (o35.below (by omega))
    have m2 := m2.only o35 (by omega)
    have m3 := m3.only o35 (by omega)
    refine s_val hF (x_assign rfl) (by decide) fun a hF => ?_
    refine s_end (hK9 _ _ ?_)
    have hB8 := hB
    refine wp_rs fun K10 hK10 => ?_
    refine s_val hF (x_ldW wide24 m3 rfl rfl) (by decide) fun a hF => ?_
    refine s_callR (R := fun v w' => ∃ c vk ks, v = .tuple #[.agg [.int .i64 c, vk].toArray, .bool (decide (sndL lb))] ∧ FF w34 y lb w' c vk ks) [_] hF (enters_of Try.func125 (by kernel_rfl) rfl) rfl (by decide) (formOf38 y lb w34 (hLb.old hB)) ?_
    rintro _ w36 a ⟨c2, vk2, ks2, rfl, hf2⟩ B37 hF
    have sB37 := B37.size
    have hB := hB.trans (B37.mono hB.size)
    have hB1 := hB1.trans (B37.mono hB1.size)
    have m2 := m2.old B37
    have m3 := m3.old B37
    have m5 := m5.old B37
    have h1v2 := hf2.1.one
    have hB2 := Below.refl w36.heap.size w36
    rw [hd2] at hF
    refine s_val hF (x_move rfl) (by decide) fun a hF => ?_
    refine s_val hF (x_ext rfl rfl) (by decide) fun a hF => ?_
    refine s_val hF (x_ext rfl rfl) (by decide) fun a hF => ?_
    refine s_alloc hF (by decide) zero59 fun w38 b7 a eb7 m7 B39 zb7 hF => ?_
    have sB39 := B39.size
    have hB := hB.trans (B39.mono hB.size)
    have hB1 := hB1.trans (B39.mono hB1.size)
    have hB2 := hB2.trans (B39.mono hB2.size)
    have m2 := m2.old B39
    have m3 := m3.old B39
    have m5 := m5.old B39
    refine s_putW hF rfl rfl (size_wide wide59) m7 rfl (one2 h1v2) fun w40 m7 o41 => ?_
    have so41 := o41.size
    have hB := hB.trans (o41.below (by omega))
    have hB1 := hB1.trans (o41.below (by omega))
    have hB2 := hB2.trans (o41.below (by omega))
    have m2 := m2.only o41 (by omega)
    have m3 := m3.only o41 (by omega)
    have m5 := m5.only o41 (by omega)
    refine s_val hF (x_assign rfl) (by decide) fun a hF => ?_
    refine s_end (hK10 _ _ ?_)
    refine wp_rs fun K11 hK11 => ?_
    refine s_val hF (x_move rfl) (by decide) fun a hF => ?_
    refine s_val hF (x_move rfl) (by decide) fun a hF => ?_
    refine s_grd 20 hF rfl rfl rfl ?_
    refine s_val hF (x_move rfl) (by decide) fun a hF => ?_
    refine s_val hF (x_pick (b := true) rfl rfl) (by decide) fun a hF => ?_
    refine s_val hF (x_move rfl) (by decide) fun a hF => ?_
    refine s_grdn 23 hF rfl rfl (by decide) fun a hF => ?_
    refine s_grdn 23 hF rfl rfl (by decide) fun a hF => ?_
    refine s_grdn 23 hF rfl rfl (by decide) fun a hF => ?_
    refine s_val hF (x_pick (b := false) rfl rfl) (by decide) fun a hF => ?_
    refine s_val hF (x_assign rfl) (by decide) fun a hF => ?_
    refine s_end (hK11 _ _ ?_)
    refine wp_ret (res_slot hF rfl rfl ⟨_, rfl, ⟨_, rfl, fun _ => rfl, fun s t hs ht g1 g2 => absurd ⟨rs_snd hLa hs g1, rs_snd hLb ht g2⟩ hn⟩, hB⟩)
  · have hsa : sndL la := of_decide_eq_true hd1
    have hsb : sndL lb := of_decide_eq_true hd2
    obtain ⟨s, hs, hsg⟩ := sound_sl hLa hsa
    obtain ⟨t, ht, htg⟩ := sound_sl hLb hsb
    have hns := nfK_len s hsg
    have hnt := nfK_len t htg
    have hB9 := hB
    refine wp_rs fun K12 hK12 => ?_
    refine s_val hF (x_ldW wide24 m2 rfl rfl) (by decide) fun a hF => ?_
    refine s_callR (R := fun v w' => ∃ c vk ks, v = .tuple #[.agg [.int .i64 c, vk].toArray, .bool (decide (sndL la))] ∧ FF w4 x la w' c vk ks) [_] hF (enters_of Try.func125 (by kernel_rfl) rfl) rfl (by decide) (formOf38 x la w4 (hLa.old hB)) ?_
    rintro _ w42 a ⟨c1, vk1, ks1, rfl, hf1⟩ B43 hF
    have sB43 := B43.size
    have hB := hB.trans (B43.mono hB.size)
    have m2 := m2.old B43
    have m3 := m3.old B43
    have h1v1 := hf1.1.one
    have hB1 := Below.refl w42.heap.size w42
    rw [hd1] at hF
    obtain ⟨rfl, rfl⟩ := hf1.2.2 s (RS.below hB9 hs) hsg
    refine s_val hF (x_move rfl) (by decide) fun a hF => ?_
    refine s_val hF (x_ext rfl rfl) (by decide) fun a hF => ?_
    refine s_val hF (x_ext rfl rfl) (by decide) fun a hF => ?_
    refine s_alloc hF (by decide) zero59 fun w44 b5 a eb5 m5 B45 zb5 hF => ?_
    have sB45 := B45.size
    have hB := hB.trans (B45.mono hB.size)
    have hB1 := hB1.trans (B45.mono hB1.size)
    have m2 := m2.old B45
    have m3 := m3.old B45
    refine s_putW hF rfl rfl (size_wide wide59) m5 rfl (one2 h1v1) fun w46 m5 o47 => ?_
    have so47 := o47.size
    have hB := hB.trans (o47.below (by omega))
    have hB1 := hB1.trans (o47.below (by omega))
    have m2 := m2.only o47 (by omega)
    have m3 := m3.only o47 (by omega)
    refine s_val hF (x_assign rfl) (by decide) fun a hF => ?_
    refine s_end (hK12 _ _ ?_)
    have hB8 := hB
    refine wp_rs fun K13 hK13 => ?_
    refine s_val hF (x_ldW wide24 m3 rfl rfl) (by decide) fun a hF => ?_
    refine s_callR (R := fun v w' => ∃ c vk ks, v = .tuple #[.agg [.int .i64 c, vk].toArray, .bool (decide (sndL lb))] ∧ FF w46 y lb w' c vk ks) [_] hF (enters_of Try.func125 (by kernel_rfl) rfl) rfl (by decide) (formOf38 y lb w46 (hLb.old hB)) ?_
    rintro _ w48 a ⟨c2, vk2, ks2, rfl, hf2⟩ B49 hF
    have sB49 := B49.size
    have hB := hB.trans (B49.mono hB.size)
    have hB1 := hB1.trans (B49.mono hB1.size)
    have m2 := m2.old B49
    have m3 := m3.old B49
    have m5 := m5.old B49
    have h1v2 := hf2.1.one
    have hB2 := Below.refl w48.heap.size w48
    rw [hd2] at hF
    obtain ⟨rfl, rfl⟩ := hf2.2.2 t (RS.below hB8 ht) htg
    refine s_val hF (x_move rfl) (by decide) fun a hF => ?_
    refine s_val hF (x_ext rfl rfl) (by decide) fun a hF => ?_
    refine s_val hF (x_ext rfl rfl) (by decide) fun a hF => ?_
    refine s_alloc hF (by decide) zero59 fun w50 b7 a eb7 m7 B51 zb7 hF => ?_
    have sB51 := B51.size
    have hB := hB.trans (B51.mono hB.size)
    have hB1 := hB1.trans (B51.mono hB1.size)
    have hB2 := hB2.trans (B51.mono hB2.size)
    have m2 := m2.old B51
    have m3 := m3.old B51
    have m5 := m5.old B51
    refine s_putW hF rfl rfl (size_wide wide59) m7 rfl (one2 h1v2) fun w52 m7 o53 => ?_
    have so53 := o53.size
    have hB := hB.trans (o53.below (by omega))
    have hB1 := hB1.trans (o53.below (by omega))
    have hB2 := hB2.trans (o53.below (by omega))
    have m2 := m2.only o53 (by omega)
    have m3 := m3.only o53 (by omega)
    have m5 := m5.only o53 (by omega)
    refine s_val hF (x_assign rfl) (by decide) fun a hF => ?_
    refine s_end (hK13 _ _ ?_)
    refine wp_rs fun K14 hK14 => ?_
    refine s_val hF (x_move rfl) (by decide) fun a hF => ?_
    refine s_val hF (x_move rfl) (by decide) fun a hF => ?_
    refine s_grd 20 hF rfl rfl rfl ?_
    refine s_val hF (x_move rfl) (by decide) fun a hF => ?_
    refine s_val hF (x_pick (b := true) rfl rfl) (by decide) fun a hF => ?_
    refine s_val hF (x_move rfl) (by decide) fun a hF => ?_
    refine s_grd 23 hF rfl rfl rfl ?_
    refine s_val hF (x_ldW wide59 m5 rfl rfl) (by decide) fun a hF => ?_
    refine s_grd 23 hF rfl rfl rfl ?_
    refine s_val hF (x_ldW wide59 m7 rfl rfl) (by decide) fun a hF => ?_
    refine s_grd 23 hF rfl rfl rfl ?_
    refine s_callB [_, _] hF (enters_of Try.func136 (by kernel_rfl) rfl) rfl (by decide) (same44 _ _ _ _ (nfK s) (nfK t) w52 (by omega) (hf1.1.below hB1) (hf2.1.below hB2)) fun w54 a B55 hF => ?_
    have sB55 := B55.size
    have hB := hB.trans (B55.mono hB.size)
    have hB1 := hB1.trans (B55.mono hB1.size)
    have hB2 := hB2.trans (B55.mono hB2.size)
    have m2 := m2.old B55
    have m3 := m3.old B55
    have m5 := m5.old B55
    have m7 := m7.old B55
    refine s_val hF (x_pick (b := true) rfl rfl) (by decide) fun a hF => ?_
    refine s_val hF (x_assign rfl) (by decide) fun a hF => ?_
    refine s_end (hK14 _ _ ?_)
    refine wp_ret (res_slot hF rfl rfl ⟨_, rfl, ⟨_, rfl, fun h => absurd ⟨hsa, hsb⟩ h, fun s' t' hs' ht' _ _ => by rw [RS.inj hs' hs, RS.inj ht' ht]; rfl⟩, hB⟩)

end Go.Proofs.Ytgpciphjhnabcaa
