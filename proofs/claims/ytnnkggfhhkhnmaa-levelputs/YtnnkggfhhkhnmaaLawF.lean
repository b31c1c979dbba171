/- LevelPuts. -/
import Derived.Test.YtnnkggfhhkhnmaaPureN
namespace Go.Proofs.Ytnnkggfhhkhnmaa
open Go.RowKit Go.Shelf
set_option linter.unusedVariables false
set_option linter.unusedSimpArgs false

set_option maxRecDepth 100000 in
set_option maxHeartbeats 1600000 in
theorem levelPuts_walk (x : C3) (l : Lv) (xs : List C3) (ls : List Lv) (vs : List Int) (vu vv : Value) (w0 : World) (hL : RL w0 x l) (hU : Rd w0 vu 3 xs.length (xs.flatMap lc)) (hls : xs.length = ls.length) (hl : ∀ (i : Nat) x l, xs[i]? = some x → ls[i]? = some l → RL w0 x l) (hn9 : xs.length ≤ 9223372036854775807) (hV : Rd w0 vv 1 vs.length (ints vs)) (hvn : vs.length ≤ 9223372036854775807) : Calls Try.prog 10 #[lv x, vu, vv] w0 fun e w' => e = .returned (.bool true) ∧ Below w0.heap.size w0 w' := by
  obtain ⟨au, cu, rfl, _⟩ := hU.form
  obtain ⟨av, cv, rfl, _⟩ := hV.form
  obtain ⟨τ, hτ, hτ2⟩ := tau_is hl
  have hB := Below.refl w0.heap.size w0
  have sB := hB.size
  refine calls_fs 102 [(0, lv x), (1, .slice au xs.length cu), (2, .slice av vs.length cv)] Try.func10 rfl rfl rfl rfl rfl fun a hF => ?_
  refine wp_rs fun K1 hK1 => ?_
  refine s_box (lc x) hF (by decide) rfl rfl fun w2 b3 a eb3 m3 B3 zb3 hF => ?_
  have sB3 := B3.size
  have hB := hB.trans (B3.mono hB.size)
  refine s_val hF (x_assign rfl) (by decide) fun a hF => ?_
  refine s_end (hK1 _ _ ?_)
  refine wp_seq_k fun K2 hK2 => ?_
  rcases (show ¬ sndL l ∨ (sndL l ∧ 8 < xs.length) ∨ (sndL l ∧ xs.length ≤ 8 ∧ 50 < vs.length) ∨ (sndL l ∧ xs.length ≤ 8 ∧ vs.length ≤ 50) by by_cases h : sndL l <;> simp [h] <;> omega) with hn | ⟨hn, h8⟩ | ⟨hn, h8, h5⟩ | ⟨hn, h8, h5⟩
  · skip
    refine wp_rs fun K4 hK4 => ?_
    refine s_val hF (x_ldW wide24 m3 rfl rfl) (by decide) fun a hF => ?_
    refine s_callB [_] hF (enters_of Try.func17 (by kernel_rfl) rfl) rfl (by decide) (rSound17 x l w2 (hL.old hB)) fun w4 a B5 hF => ?_
    have sB5 := B5.size
    have hB := hB.trans (B5.mono hB.size)
    have m3 := m3.old B5
    rw [decide_eq_false hn] at hF
    refine s_val hF (x_not rfl) (by decide) fun a hF => ?_
    refine s_val hF (x_move rfl) (by decide) fun a hF => ?_
    refine s_grdn 18 hF rfl rfl (by decide) fun a hF => ?_
    refine s_grdn 18 hF rfl rfl (by decide) fun a hF => ?_
    refine s_grdn 18 hF rfl rfl (by decide) fun a hF => ?_
    refine s_val hF (x_pick (b := true) rfl rfl) (by decide) fun a hF => ?_
    refine s_val hF (x_move rfl) (by decide) fun a hF => ?_
    refine s_grdn 23 hF rfl rfl (by decide) fun a hF => ?_
    refine s_grdn 23 hF rfl rfl (by decide) fun a hF => ?_
    refine s_grdn 23 hF rfl rfl (by decide) fun a hF => ?_
    refine s_val hF (x_pick (b := true) rfl rfl) (by decide) fun a hF => ?_
    refine s_val hF (x_move rfl) (by decide) fun a hF => ?_
    refine s_grdn 28 hF rfl rfl (by decide) fun a hF => ?_
    refine s_grdn 28 hF rfl rfl (by decide) fun a hF => ?_
    refine s_grdn 28 hF rfl rfl (by decide) fun a hF => ?_
    refine s_val hF (x_pick (b := true) rfl rfl) (by decide) fun a hF => ?_
    refine s_end (hK4 _ _ ?_)
    refine wp_if hF rfl ?_
    refine wp_rs fun K5 hK5 => ?_
    refine s_callB [] hF (enters_of Try.func15 (by kernel_rfl) rfl) rfl (by decide) (awake15 w4) fun w6 a B7 hF => ?_
    have sB7 := B7.size
    have hB := hB.trans (B7.mono hB.size)
    have m3 := m3.old B7
    refine s_val hF (x_assign rfl) (by decide) fun a hF => ?_
    refine s_end (hK5 _ _ ?_)
    refine wp_ret (then_ret (res_slot hF rfl rfl ⟨rfl, hB⟩))
  · obtain ⟨s, hs, gs⟩ := sound_sl hL hn
    refine wp_rs fun K6 hK6 => ?_
    refine s_val hF (x_ldW wide24 m3 rfl rfl) (by decide) fun a hF => ?_
    refine s_callB [_] hF (enters_of Try.func17 (by kernel_rfl) rfl) rfl (by decide) (rSound17 x l w2 (hL.old hB)) fun w8 a B9 hF => ?_
    have sB9 := B9.size
    have hB := hB.trans (B9.mono hB.size)
    have m3 := m3.old B9
    rw [decide_eq_true hn] at hF
    refine s_val hF (x_not rfl) (by decide) fun a hF => ?_
    refine s_val hF (x_move rfl) (by decide) fun a hF => ?_
    refine s_grd 18 hF rfl rfl rfl ?_
    refine s_val hF (x_ldW wide24 m3 rfl rfl) (by decide) fun a hF => ?_
    refine s_grd 18 hF rfl rfl rfl ?_
    refine s_callR (R := fun v w' => ∃ b, v = .bool b ∧ (b = true → (s).lit)) [_] hF (enters_of Try.func31 (by kernel_rfl) rfl) rfl (by decide) (little31 ((s).size + 1) (s) x w8 (by omega) (RS.below hB hs)) ?_
    rintro _ w10 a ⟨b20, rfl, hb20⟩ B11 hF
    have sB11 := B11.size
    have hB := hB.trans (B11.mono hB.size)
    have m3 := m3.old B11
    cases b20
    · refine s_grd 18 hF rfl rfl rfl ?_
      refine s_val hF (x_not rfl) (by decide) fun a hF => ?_
      refine s_val hF (x_pick (b := false) rfl rfl) (by decide) fun a hF => ?_
      refine s_val hF (x_move rfl) (by decide) fun a hF => ?_
      refine s_grdn 23 hF rfl rfl (by decide) fun a hF => ?_
      refine s_grdn 23 hF rfl rfl (by decide) fun a hF => ?_
      refine s_grdn 23 hF rfl rfl (by decide) fun a hF => ?_
      refine s_val hF (x_pick (b := true) rfl rfl) (by decide) fun a hF => ?_
      refine s_val hF (x_move rfl) (by decide) fun a hF => ?_
      refine s_grdn 28 hF rfl rfl (by decide) fun a hF => ?_
      refine s_grdn 28 hF rfl rfl (by decide) fun a hF => ?_
      refine s_grdn 28 hF rfl rfl (by decide) fun a hF => ?_
      refine s_val hF (x_pick (b := true) rfl rfl) (by decide) fun a hF => ?_
      refine s_end (hK6 _ _ ?_)
      refine wp_if hF rfl ?_
      refine wp_rs fun K7 hK7 => ?_
      refine s_callB [] hF (enters_of Try.func15 (by kernel_rfl) rfl) rfl (by decide) (awake15 w10) fun w12 a B13 hF => ?_
      have sB13 := B13.size
      have hB := hB.trans (B13.mono hB.size)
      have m3 := m3.old B13
      refine s_val hF (x_assign rfl) (by decide) fun a hF => ?_
      refine s_end (hK7 _ _ ?_)
      refine wp_ret (then_ret (res_slot hF rfl rfl ⟨rfl, hB⟩))
    · refine s_grd 18 hF rfl rfl rfl ?_
      refine s_val hF (x_not rfl) (by decide) fun a hF => ?_
      refine s_val hF (x_pick (b := false) rfl rfl) (by decide) fun a hF => ?_
      refine s_val hF (x_move rfl) (by decide) fun a hF => ?_
      refine s_grd 23 hF rfl rfl rfl ?_
      refine s_val hF (x_move rfl) (by decide) fun a hF => ?_
      refine s_grd 23 hF rfl rfl rfl ?_
      refine s_val hF (x_len Try.underlying22 rfl) (by decide) fun a hF => ?_
      refine s_grd 23 hF rfl rfl rfl ?_
      refine s_val hF (x_gtr (b := true) (decide_eq_true (by omega)) rfl rfl) (by decide) fun a hF => ?_
      refine s_val hF (x_pick (b := false) rfl rfl) (by decide) fun a hF => ?_
      refine s_val hF (x_move rfl) (by decide) fun a hF => ?_
      refine s_grdn 28 hF rfl rfl (by decide) fun a hF => ?_
      refine s_grdn 28 hF rfl rfl (by decide) fun a hF => ?_
      refine s_grdn 28 hF rfl rfl (by decide) fun a hF => ?_
      refine s_val hF (x_pick (b := true) rfl rfl) (by decide) fun a hF => ?_
      refine s_end (hK6 _ _ ?_)
      refine wp_if hF rfl ?_
      refine wp_rs fun K8 hK8 => ?_
      refine s_callB [] hF (enters_of Try.func15 (by kernel_rfl) rfl) rfl (by decide) (awake15 w10) fun w14 a B15 hF => ?_
      have sB15 := B15.size
      have hB := hB.trans (B15.mono hB.size)
      have m3 := m3.old B15
      refine s_val hF (x_assign rfl) (by decide) fun a hF => ?_
      refine s_end (hK8 _ _ ?_)
      refine wp_ret (then_ret (res_slot hF rfl rfl ⟨rfl, hB⟩))
  · obtain ⟨s, hs, gs⟩ := sound_sl hL hn
    refine wp_rs fun K9 hK9 => ?_
    refine s_val hF (x_ldW wide24 m3 rfl rfl) (by decide) fun a hF => ?_
    refine s_callB [_] hF (enters_of Try.func17 (by kernel_rfl) rfl) rfl (by decide) (rSound17 x l w2 (hL.old hB)) fun w16 a B17 hF => ?_
    have sB17 := B17.size
    have hB := hB.trans (B17.mono hB.size)
    have m3 := m3.old B17
    rw [decide_eq_true hn] at hF
    refine s_val hF (x_not rfl) (by decide) fun a hF => ?_
    refine s_val hF (x_move rfl) (by decide) fun a hF => ?_
    refine s_grd 18 hF rfl rfl rfl ?_
    refine s_val hF (x_ldW wide24 m3 rfl rfl) (by decide) fun a hF => ?_
    refine s_grd 18 hF rfl rfl rfl ?_
    refine s_callR (R := fun v w' => ∃ b, v = .bool b ∧ (b = true → (s).lit)) [_] hF (enters_of Try.func31 (by kernel_rfl) rfl) rfl (by decide) (little31 ((s).size + 1) (s) x w16 (by omega) (RS.below hB hs)) ?_
    rintro _ w18 a ⟨b20, rfl, hb20⟩ B19 hF
    have sB19 := B19.size
    have hB := hB.trans (B19.mono hB.size)
    have m3 := m3.old B19
    cases b20
    · refine s_grd 18 hF rfl rfl rfl ?_
      refine s_val hF (x_not rfl) (by decide) fun a hF => ?_
      refine s_val hF (x_pick (b := false) rfl rfl) (by decide) fun a hF => ?_
      refine s_val hF (x_move rfl) (by decide) fun a hF => ?_
      refine s_grdn 23 hF rfl rfl (by decide) fun a hF => ?_
      refine s_grdn 23 hF rfl rfl (by decide) fun a hF => ?_
      refine s_grdn 23 hF rfl rfl (by decide) fun a hF => ?_
      refine s_val hF (x_pick (b := true) rfl rfl) (by decide) fun a hF => ?_
      refine s_val hF (x_move rfl) (by decide) fun a hF => ?_
      refine s_grdn 28 hF rfl rfl (by decide) fun a hF => ?_
      refine s_grdn 28 hF rfl rfl (by decide) fun a hF => ?_
      refine s_grdn 28 hF rfl rfl (by decide) fun a hF => ?_
      refine s_val hF (x_pick (b := true) rfl rfl) (by decide) fun a hF => ?_
      refine s_end (hK9 _ _ ?_)
      refine wp_if hF rfl ?_
      refine wp_rs fun K10 hK10 => ?_
      refine s_callB [] hF (enters_of Try.func15 (by kernel_rfl) rfl) rfl (by decide) (awake15 w18) fun w20 a B21 hF => ?_
      have sB21 := B21.size
      have hB := hB.trans (B21.mono hB.size)
      have m3 := m3.old B21
      refine s_val hF (x_assign rfl) (by decide) fun a hF => ?_
      refine s_end (hK10 _ _ ?_)
      refine wp_ret (then_ret (res_slot hF rfl rfl ⟨rfl, hB⟩))
    · refine s_grd 18 hF rfl rfl rfl ?_
      refine s_val hF (x_not rfl) (by decide) fun a hF => ?_
      refine s_val hF (x_pick (b := false) rfl rfl) (by decide) fun a hF => ?_
      refine s_val hF (x_move rfl) (by decide) fun a hF => ?_
      refine s_grd 23 hF rfl rfl rfl ?_
      refine s_val hF (x_move rfl) (by decide) fun a hF => ?_
      refine s_grd 23 hF rfl rfl rfl ?_
      refine s_val hF (x_len Try.underlying22 rfl) (by decide) fun a hF => ?_
      refine s_grd 23 hF rfl rfl rfl ?_
      refine s_val hF (x_gtr (b := false) (decide_eq_false (by omega)) rfl rfl) (by decide) fun a hF => ?_
      refine s_val hF (x_pick (b := false) rfl rfl) (by decide) fun a hF => ?_
      refine s_val hF (x_move rfl) (by decide) fun a hF => ?_
      refine s_grd 28 hF rfl rfl rfl ?_
      refine s_val hF (x_move rfl) (by decide) fun a hF => ?_
      refine s_grd 28 hF rfl rfl rfl ?_
      refine s_val hF (x_len Try.underlying29 rfl) (by decide) fun a hF => ?_
      refine s_grd 28 hF rfl rfl rfl ?_
      refine s_val hF (x_gtr (b := true) (decide_eq_true (by omega)) rfl rfl) (by decide) fun a hF => ?_
      refine s_val hF (x_pick (b := false) rfl rfl) (by decide) fun a hF => ?_
      refine s_end (hK9 _ _ ?_)
      refine wp_if hF rfl ?_
      refine wp_rs fun K11 hK11 => ?_
      refine s_callB [] hF (enters_of Try.func15 (by kernel_rfl) rfl) rfl (by decide) (awake15 w18) fun w22 a B23 hF => ?_
      have sB23 := B23.size
      have hB := hB.trans (B23.mono hB.size)
      have m3 := m3.old B23
      refine s_val hF (x_assign rfl) (by decide) fun a hF => ?_
      refine s_end (hK11 _ _ ?_)
      refine wp_ret (then_ret (res_slot hF rfl rfl ⟨rfl, hB⟩))
  · obtain ⟨s, hs, gs⟩ := sound_sl hL hn
    refine wp_rs fun K12 hK12 => ?_
    refine s_val hF (x_ldW wide24 m3 rfl rfl) (by decide) fun a hF => ?_
    refine s_callB [_] hF (enters_of Try.func17 (by kernel_rfl) rfl) rfl (by decide) (rSound17 x l w2 (hL.old hB)) fun w24 a B25 hF => ?_
    have sB25 := B25.size
    have hB := hB.trans (B25.mono hB.size)
    have m3 := m3.old B25
    rw [decide_eq_true hn] at hF
    refine s_val hF (x_not rfl) (by decide) fun a hF => ?_
    refine s_val hF (x_move rfl) (by decide) fun a hF => ?_
    refine s_grd 18 hF rfl rfl rfl ?_
    refine s_val hF (x_ldW wide24 m3 rfl rfl) (by decide) fun a hF => ?_
    refine s_grd 18 hF rfl rfl rfl ?_
    refine s_callR (R := fun v w' => ∃ b, v = .bool b ∧ (b = true → (s).lit)) [_] hF (enters_of Try.func31 (by kernel_rfl) rfl) rfl (by decide) (little31 ((s).size + 1) (s) x w24 (by omega) (RS.below hB hs)) ?_
    rintro _ w26 a ⟨b20, rfl, hb20⟩ B27 hF
    have sB27 := B27.size
    have hB := hB.trans (B27.mono hB.size)
    have m3 := m3.old B27
    cases b20
    · refine s_grd 18 hF rfl rfl rfl ?_
      refine s_val hF (x_not rfl) (by decide) fun a hF => ?_
      refine s_val hF (x_pick (b := false) rfl rfl) (by decide) fun a hF => ?_
      refine s_val hF (x_move rfl) (by decide) fun a hF => ?_
      refine s_grdn 23 hF rfl rfl (by decide) fun a hF => ?_
      refine s_grdn 23 hF rfl rfl (by decide) fun a hF => ?_
      refine s_grdn 23 hF rfl rfl (by decide) fun a hF => ?_
      refine s_val hF (x_pick (b := true) rfl rfl) (by decide) fun a hF => ?_
      refine s_val hF (x_move rfl) (by decide) fun a hF => ?_
      refine s_grdn 28 hF rfl rfl (by decide) fun a hF => ?_
      refine s_grdn 28 hF rfl rfl (by decide) fun a hF => ?_
      refine s_grdn 28 hF rfl rfl (by decide) fun a hF => ?_
      refine s_val hF (x_pick (b := true) rfl rfl) (by decide) fun a hF => ?_
      refine s_end (hK12 _ _ ?_)
      refine wp_if hF rfl ?_
      refine wp_rs fun K13 hK13 => ?_
      refine s_callB [] hF (enters_of Try.func15 (by kernel_rfl) rfl) rfl (by decide) (awake15 w26) fun w28 a B29 hF => ?_
      have sB29 := B29.size
      have hB := hB.trans (B29.mono hB.size)
      have m3 := m3.old B29
      refine s_val hF (x_assign rfl) (by decide) fun a hF => ?_
      refine s_end (hK13 _ _ ?_)
      refine wp_ret (then_ret (res_slot hF rfl rfl ⟨rfl, hB⟩))
    · refine s_grd 18 hF rfl rfl rfl ?_
      refine s_val hF (x_not rfl) (by decide) fun a hF => ?_
      refine s_val hF (x_pick (b := false) rfl rfl) (by decide) fun a hF => ?_
      refine s_val hF (x_move rfl) (by decide) fun a hF => ?_
      refine s_grd 23 hF rfl rfl rfl ?_
      refine s_val hF (x_move rfl) (by decide) fun a hF => ?_
      refine s_grd 23 hF rfl rfl rfl ?_
      refine s_val hF (x_len Try.underlying22 rfl) (by decide) fun a hF => ?_
      refine s_grd 23 hF rfl rfl rfl ?_
      refine s_val hF (x_gtr (b := false) (decide_eq_false (by omega)) rfl rfl) (by decide) fun a hF => ?_
      refine s_val hF (x_pick (b := false) rfl rfl) (by decide) fun a hF => ?_
      refine s_val hF (x_move rfl) (by decide) fun a hF => ?_
      refine s_grd 28 hF rfl rfl rfl ?_
      refine s_val hF (x_move rfl) (by decide) fun a hF => ?_
      refine s_grd 28 hF rfl rfl rfl ?_
      refine s_val hF (x_len Try.underlying29 rfl) (by decide) fun a hF => ?_
      refine s_grd 28 hF rfl rfl rfl ?_
      refine s_val hF (x_gtr (b := false) (decide_eq_false (by omega)) rfl rfl) (by decide) fun a hF => ?_
      refine s_val hF (x_pick (b := false) rfl rfl) (by decide) fun a hF => ?_
      refine s_end (hK12 _ _ ?_)
      refine wp_if hF rfl ?_
      refine wp_skip (hK2 _ _ ?_)
      have hsl := hb20 rfl
      refine wp_rs fun K14 hK14 => ?_
      refine s_val hF (x_assign rfl) (by decide) fun a hF => ?_
      refine s_end (hK14 _ _ ?_)
      refine wp_seq_k fun K15 hK15 => ?_
      refine wp_rs fun K16 hK16 => ?_
      refine s_val hF (x_move rfl) (by decide) fun a hF => ?_
      refine s_val hF (x_len Try.underlying29 rfl) (by decide) fun a hF => ?_
      refine s_val hF (x_move rfl) (by decide) fun a hF => ?_
      refine s_end (hK16 _ _ ?_)
      refine wp_block ?_
      refine wp_up vs.length (fun i a w => ∃ v', w.ownsRow w26.heap.size 3 1 v' i (ints ((atL vs).take i)) ∧ Below w26.heap.size w26 w ∧ Fs 102 a [(36, .int .i64 (i : Int)), (35, .int .i64 (vs.length : Int)), (34, .slice av vs.length cv), (7, v'), (1, .slice au xs.length cu), (3, .pointer (some ⟨b3, 0, none⟩))]) ⟨_, World.ownsRow_nil _ _ _ _, Below.refl _ _, hF.sub _ rfl⟩ ?_
      clear hF
      rintro i a wa hi ⟨va, hO, hBS, hF⟩ K' hK'
      have m3 := m3.old hBS
      have hB := hB.trans (hBS.mono hB.size)
      have sB := hB.size
      have sBS := hBS.size
      have hm3 := m3.lt
      refine wp_rs fun K17 hK17 => ?_
      refine s_val hF (x_lss rfl rfl rfl) (by decide) fun a hF => ?_
      refine s_end (hK17 _ _ ?_)
      refine wp_seq_k fun K18 hK18 => ?_
      refine wp_iff hF rfl (fun hc37 => ?_) (fun hc37 => ?_)
      · obtain ⟨b, off, c, hve, hrow⟩ := rd_rowN hV (i := i) (by omega)
        cases hve
        refine wp_skip (hK18 _ _ ?_)
        refine wp_seq_k fun K19 hK19 => ?_
        refine wp_block ?_
        refine wp_rs fun K20 hK20 => ?_
        refine s_val hF (x_ixa rfl rfl (m_ixs i Try.underlying29 el29.size rfl (by omega))) (by decide) fun a hF => ?_
        refine s_val hF (x_load rfl (m_load flat3 (hrow _ hB))) (by decide) fun a hF => ?_
        refine s_val hF (x_assign rfl) (by decide) fun a hF => ?_
        refine s_end (hK20 _ _ ?_)
        refine wp_region_lit ?_
        refine s_val hF (x_move rfl) (by decide) fun a hF => ?_
        refine s_val hF (x_move rfl) (by decide) fun a hF => ?_
        refine s_val hF (x_imin rfl rfl) (by decide) fun a hF => ?_
        refine s_val hF (x_imax rfl rfl) (by decide) fun a hF => ?_
        refine s_litG [.int .i64 (max 0 (min (vs.getD i 0) 1073741824))] el29 hF (by decide) rfl (by simp [Value.cells]) rfl (by decide) (by decide) fun w30 bl a ebl ml B31 zbl hF => ?_
        have sB31 := B31.size
        have hB := hB.trans (B31.mono hB.size)
        have hBS := hBS.trans (B31.mono hBS.size)
        have m3 := m3.old B31
        have hO := own_below hO B31
        have ml : Blk w30 bl 3 [.int .i64 (max 0 (min (vs.getD i 0) 1073741824))] := by simpa [Value.cells] using ml
        obtain ⟨o2, hat, ho2⟩ := own_pick hO bl (by omega) (by omega)
        refine s_app1 (o := o2) el29 hF (by decide) rfl rfl hO ml rfl (by simp [Value.oneCell']) hat (by omega) (by omega) (by decide) (by omega) fun v3 w32 a o3 hOn hOatn how hsrc k33 hkeep hF => ?_
        have sk33 := k33.size
        have hB := k33.under hB (by omega)
        have hBS := k33.under hBS (by omega)
        have m3 := m3.k2 k33 (by omega)
        have hO := hOn
        have hO_at := hOatn
        refine s_val hF (x_assign rfl) (by decide) fun a hF => ?_
        refine s_end (hK19 _ _ ?_)
        refine wp_region_lit ?_
        refine s_val hF (x_addn (i + 1) (by omega) (by omega) rfl rfl) (by decide) fun a hF => ?_
        refine s_val hF (x_move rfl) (by decide) fun a hF => ?_
        refine s_end (hK' _ _ (by omega) ⟨v3, by rw [take_at (by omega), ints_app]; exact hO, hBS, hF.sub _ rfl⟩)
      · have hi2 : i = vs.length := by omega
        have hOA : (atL vs).take i = atL vs := List.take_of_length_le (by rw [atL, List.length_map]; omega)
        rw [hOA] at hO
        have hAl : (atL vs).length = i := by rw [atL, List.length_map]; omega
        have hA := Rd.own hO
        rw [← hAl] at hA
        obtain ⟨aa, ca, rfl, _⟩ := hA.form
        have hA5 : (atL vs).length ≤ 50 := by omega
        clear hO
        refine wp_exit (hK15 _ _ ?_)
        refine wp_rs fun K21 hK21 => ?_
        refine s_val hF (x_assign rfl) (by decide) fun a hF => ?_
        refine s_end (hK21 _ _ ?_)
        refine wp_seq_k fun K22 hK22 => ?_
        refine wp_rs fun K23 hK23 => ?_
        refine s_val hF (x_move rfl) (by decide) fun a hF => ?_
        refine s_val hF (x_len Try.underlying22 rfl) (by decide) fun a hF => ?_
        refine s_val hF (x_move rfl) (by decide) fun a hF => ?_
        refine s_end (hK23 _ _ ?_)
        refine wp_block ?_
        have hB0 := hB
        have m30 := m3
        refine wp_up xs.length (fun q a w => ∃ v', w.ownsRow wa.heap.size 3 1 v' q (ints (innerL τ (atL vs) q)) ∧ (∀ j l, j < q → ls[j]? = some l → sndL l) ∧ (∀ j, j < q → (τ j).good ∧ (τ j).lit) ∧ Below wa.heap.size wa w ∧ Fs 102 a [(49, .int .i64 (q : Int)), (48, .int .i64 (xs.length : Int)), (47, .slice au xs.length cu), (10, v'), (7, .slice aa (atL vs).length ca), (1, .slice au xs.length cu), (3, .pointer (some ⟨b3, 0, none⟩))]) ⟨_, World.ownsRow_nil _ _ _ _, (fun j l h => absurd h (by omega)), (fun j h => absurd h (by omega)), Below.refl _ _, hF.sub _ rfl⟩ ?_
        clear hF
        rintro q a wb hq ⟨vb, hO, hsd, hgd, hBA, hF⟩ K' hK'
        have hOb : ∀ k, vb.ownBlock = some k → k < wb.heap.size := fun k h => (hO.lt k h).2
        have m3 := m30.old hBA
        have hB := hB0.trans (hBA.mono hB0.size)
        have sB := hB.size
        have sBA := hBA.size
        have hm3 := m3.lt
        refine wp_rs fun K24 hK24 => ?_
        refine s_val hF (x_lss rfl rfl rfl) (by decide) fun a hF => ?_
        refine s_end (hK24 _ _ ?_)
        refine wp_seq_k fun K25 hK25 => ?_
        refine wp_iff hF rfl (fun hc50 => ?_) (fun hc50 => ?_)
        · obtain ⟨b, off, c, y, hve, hy, hrow2⟩ := rd_row3 hU (i := q) (by omega)
          cases hve
          obtain ⟨ly, hlk⟩ : ∃ l, ls[q]? = some l := ⟨_, List.getElem?_eq_getElem (by omega)⟩
          have hLy := hl q y ly hy hlk
          have h1y := hLy.one1
          refine wp_skip (hK25 _ _ ?_)
          refine wp_seq_k fun K26 hK26 => ?_
          refine wp_block ?_
          refine wp_rs fun K27 hK27 => ?_
          refine s_val hF (x_ixa rfl rfl (m_ixsK q Try.underlying22 el22.size rfl (by omega))) (by decide) fun a hF => ?_
          refine s_val hF (x_ldA wide24 (hrow2 _ hB) rfl rfl) (by decide) fun a hF => ?_
          refine s_alloc hF (by decide) zero24 fun w34 b12 a eb12 m12 B35 zb12 hF => ?_
          have sB35 := B35.size
          have hB := hB.trans (B35.mono hB.size)
          have hBA := hBA.trans (B35.mono hBA.size)
          have m3 := m3.old B35
          have hO := own_below hO B35
          refine s_putW hF rfl rfl (size_wide wide24) m12 rfl (one_lc h1y) fun w36 m12 o37 => ?_
          have so37 := o37.size
          have hB := hB.trans (o37.below (by omega))
          have hBA := hBA.trans (o37.below (by omega))
          have m3 := m3.only o37 (by omega)
          have hO := own_only hO o37 (fun e => by have := hOb _ e; omega)
          refine s_end (hK27 _ _ ?_)
          refine wp_seq_k fun K28 hK28 => ?_
          rcases Classical.em (sndL ly) with hsn | hsn
          · obtain ⟨hty, hgy⟩ := hτ q y ly hy hlk hsn
            refine wp_rs fun K30 hK30 => ?_
            refine s_val hF (x_ldW wide24 m12 rfl rfl) (by decide) fun a hF => ?_
            refine s_callB [_] hF (enters_of Try.func17 (by kernel_rfl) rfl) rfl (by decide) (rSound17 y ly w36 (hLy.old hB)) fun w38 a B39 hF => ?_
            have sB39 := B39.size
            have hB := hB.trans (B39.mono hB.size)
            have hBA := hBA.trans (B39.mono hBA.size)
            have m3 := m3.old B39
            have hO := own_below hO B39
            have m12 := m12.old B39
            rw [decide_eq_true hsn] at hF
            refine s_val hF (x_not rfl) (by decide) fun a hF => ?_
            refine s_val hF (x_move rfl) (by decide) fun a hF => ?_
            refine s_grd 56 hF rfl rfl rfl ?_
            refine s_val hF (x_ldW wide24 m12 rfl rfl) (by decide) fun a hF => ?_
            refine s_grd 56 hF rfl rfl rfl ?_
            refine s_callR (R := fun v w' => ∃ b, v = .bool b ∧ (b = true → (τ q).lit)) [_] hF (enters_of Try.func31 (by kernel_rfl) rfl) rfl (by decide) (little31 ((τ q).size + 1) (τ q) y w38 (by omega) (RS.below hB hty)) ?_
            rintro _ w40 a ⟨b58, rfl, hb58⟩ B41 hF
            have sB41 := B41.size
            have hB := hB.trans (B41.mono hB.size)
            have hBA := hBA.trans (B41.mono hBA.size)
            have m3 := m3.old B41
            have hO := own_below hO B41
            have m12 := m12.old B41
            cases b58
            · refine s_grd 56 hF rfl rfl rfl ?_
              refine s_val hF (x_not rfl) (by decide) fun a hF => ?_
              refine s_val hF (x_pick (b := false) rfl rfl) (by decide) fun a hF => ?_
              refine s_end (hK30 _ _ ?_)
              refine wp_if hF rfl ?_
              refine wp_rs fun K31 hK31 => ?_
              refine s_callB [] hF (enters_of Try.func15 (by kernel_rfl) rfl) rfl (by decide) (awake15 w40) fun w42 a B43 hF => ?_
              have sB43 := B43.size
              have hB := hB.trans (B43.mono hB.size)
              have hBA := hBA.trans (B43.mono hBA.size)
              have m3 := m3.old B43
              have hO := own_below hO B43
              have m12 := m12.old B43
              refine s_val hF (x_assign rfl) (by decide) fun a hF => ?_
              refine s_end (hK31 _ _ ?_)
              refine wp_ret (then_ret (inb_ret (then_ret (then_ret (inb_ret (then_ret (res_slot hF rfl rfl ⟨rfl, hB⟩)))))))
            · refine s_grd 56 hF rfl rfl rfl ?_
              refine s_val hF (x_not rfl) (by decide) fun a hF => ?_
              refine s_val hF (x_pick (b := false) rfl rfl) (by decide) fun a hF => ?_
              refine s_end (hK30 _ _ ?_)
              refine wp_if hF rfl ?_
              refine wp_skip (hK28 _ _ ?_)
              have hly := hb58 rfl
              refine wp_region_lit ?_
              refine s_val hF (x_move rfl) (by decide) fun a hF => ?_
              refine s_val hF (x_ldW wide24 m12 rfl rfl) (by decide) fun a hF => ?_
              refine s_val hF (x_move rfl) (by decide) fun a hF => ?_
              refine s_callB [_, _] hF (enters_of Try.func29 (by kernel_rfl) rfl) rfl (by decide) (valS (RS.below hB hty) hgy (hA.below hBA) (by omega)) fun w44 a B45 hF => ?_
              have sB45 := B45.size
              have hB := hB.trans (B45.mono hB.size)
              have hBA := hBA.trans (B45.mono hBA.size)
              have m3 := m3.old B45
              have hO := own_below hO B45
              have m12 := m12.old B45
              refine s_litG [.int .i64 (val (τ q) (rho (atL vs)))] el29 hF (by decide) rfl (by simp [Value.cells]) rfl (by decide) (by decide) fun w46 bl a ebl ml B47 zbl hF => ?_
              have sB47 := B47.size
              have hB := hB.trans (B47.mono hB.size)
              have hBA := hBA.trans (B47.mono hBA.size)
              have m3 := m3.old B47
              have hO := own_below hO B47
              have m12 := m12.old B47
              have ml : Blk w46 bl 3 [.int .i64 (val (τ q) (rho (atL vs)))] := by simpa [Value.cells] using ml
              obtain ⟨o2, hat, ho2⟩ := own_pick hO bl (by omega) (by omega)
              refine s_app1 (o := o2) el29 hF (by decide) rfl rfl hO ml rfl (by simp [Value.oneCell']) hat (by omega) (by omega) (by decide) (by omega) fun v3 w48 a o3 hOn hOatn how hsrc k49 hkeep hF => ?_
              have sk49 := k49.size
              have hB := k49.under hB (by omega)
              have hBA := k49.under hBA (by omega)
              have m3 := m3.k2 k49 (by omega)
              have hO := hOn
              have hO_at := hOatn
              refine s_val hF (x_assign rfl) (by decide) fun a hF => ?_
              refine s_end (hK26 _ _ ?_)
              refine wp_region_lit ?_
              refine s_val hF (x_addn (q + 1) (by omega) (by omega) rfl rfl) (by decide) fun a hF => ?_
              refine s_val hF (x_move rfl) (by decide) fun a hF => ?_
              refine s_end (hK' _ _ (by omega) ⟨v3, by rw [inner_succ, ints_app]; exact hO, (fun j l' hj h => by rcases Nat.lt_succ_iff_lt_or_eq.1 hj with h1 | rfl; (· exact hsd j l' h1 h); (· rw [hlk] at h; cases h; exact hsn)), (fun j hj => by rcases Nat.lt_succ_iff_lt_or_eq.1 hj with h1 | rfl; (· exact hgd j h1); (· exact ⟨hgy, hly⟩)), hBA, hF.sub _ rfl⟩)
          · skip
            refine wp_rs fun K32 hK32 => ?_
            refine s_val hF (x_ldW wide24 m12 rfl rfl) (by decide) fun a hF => ?_
            refine s_callB [_] hF (enters_of Try.func17 (by kernel_rfl) rfl) rfl (by decide) (rSound17 y ly w36 (hLy.old hB)) fun w50 a B51 hF => ?_
            have sB51 := B51.size
            have hB := hB.trans (B51.mono hB.size)
            have hBA := hBA.trans (B51.mono hBA.size)
            have m3 := m3.old B51
            have hO := own_below hO B51
            have m12 := m12.old B51
            rw [decide_eq_false hsn] at hF
            refine s_val hF (x_not rfl) (by decide) fun a hF => ?_
            refine s_val hF (x_move rfl) (by decide) fun a hF => ?_
            refine s_grdn 56 hF rfl rfl (by decide) fun a hF => ?_
            refine s_grdn 56 hF rfl rfl (by decide) fun a hF => ?_
            refine s_grdn 56 hF rfl rfl (by decide) fun a hF => ?_
            refine s_val hF (x_pick (b := true) rfl rfl) (by decide) fun a hF => ?_
            refine s_end (hK32 _ _ ?_)
            refine wp_if hF rfl ?_
            refine wp_rs fun K33 hK33 => ?_
            refine s_callB [] hF (enters_of Try.func15 (by kernel_rfl) rfl) rfl (by decide) (awake15 w50) fun w52 a B53 hF => ?_
            have sB53 := B53.size
            have hB := hB.trans (B53.mono hB.size)
            have hBA := hBA.trans (B53.mono hBA.size)
            have m3 := m3.old B53
            have hO := own_below hO B53
            have m12 := m12.old B53
            refine s_val hF (x_assign rfl) (by decide) fun a hF => ?_
            refine s_end (hK33 _ _ ?_)
            refine wp_ret (then_ret (inb_ret (then_ret (then_ret (inb_ret (then_ret (res_slot hF rfl rfl ⟨rfl, hB⟩)))))))
        · have hq2 : q = xs.length := by omega
          subst hq2
          refine wp_exit (hK22 _ _ ?_)
          refine wp_seq_k fun K34 hK34 => ?_
          refine wp_rs fun K35 hK35 => ?_
          refine s_val hF (x_move rfl) (by decide) fun a hF => ?_
          refine s_val hF (x_len Try.underlying22 rfl) (by decide) fun a hF => ?_
          refine s_val hF (x_assign rfl) (by decide) fun a hF => ?_
          refine s_end (hK35 _ _ ?_)
          refine wp_block ?_
          refine wp_up (atL vs).length (fun j a w => ∃ v', w.ownsRow wa.heap.size 3 1 v' (xs.length + j) (ints (innerL τ (atL vs) xs.length ++ ((atL vs).drop xs.length).take j)) ∧ Below wa.heap.size wa w ∧ Fs 102 a [(13, .int .i64 ((xs.length + j : Nat) : Int)), (10, v'), (7, .slice aa (atL vs).length ca), (1, .slice au xs.length cu), (3, .pointer (some ⟨b3, 0, none⟩))]) ⟨vb, by rw [List.take_zero, List.append_nil]; exact hO, hBA, hF.sub _ rfl⟩ ?_
          clear hF hBA
          rintro j a wc hj ⟨vc, hO, hBA, hF⟩ K' hK'
          have m3 := m30.old hBA
          have hB := hB0.trans (hBA.mono hB0.size)
          have sB := hB.size
          have sBA := hBA.size
          have hm3 := m3.lt
          refine wp_seq_k fun K36 hK36 => ?_
          refine wp_rs fun K37 hK37 => ?_
          refine s_val hF (x_move rfl) (by decide) fun a hF => ?_
          refine s_val hF (x_move rfl) (by decide) fun a hF => ?_
          refine s_val hF (x_len Try.underlying29 rfl) (by decide) fun a hF => ?_
          refine s_val hF (x_lss (b := decide (xs.length + j < (atL vs).length)) (decide_eq_decide.2 (by omega)) rfl rfl) (by decide) fun a hF => ?_
          refine s_end (hK37 _ _ ?_)
          refine wp_iff hF rfl (fun hc74 => ?_) (fun hc74 => ?_)
          · obtain ⟨b, off, c, hve, hrowA⟩ := rd_rowN hA (i := xs.length + j) (by omega)
            cases hve
            refine wp_skip (hK36 _ _ ?_)
            refine wp_seq_k fun K38 hK38 => ?_
            refine wp_block ?_
            refine wp_region_lit ?_
            refine s_val hF (x_move rfl) (by decide) fun a hF => ?_
            refine s_val hF (x_move rfl) (by decide) fun a hF => ?_
            refine s_val hF (x_move rfl) (by decide) fun a hF => ?_
            refine s_val hF (x_ixa rfl rfl (m_ixs (xs.length + j) Try.underlying29 el29.size rfl (by omega))) (by decide) fun a hF => ?_
            refine s_val hF (x_load rfl (m_load flat3 (hrowA _ hBA))) (by decide) fun a hF => ?_
            refine s_litG [.int .i64 ((atL vs).getD (xs.length + j) 0)] el29 hF (by decide) rfl (by simp [Value.cells]) rfl (by decide) (by decide) fun w54 bl a ebl ml B55 zbl hF => ?_
            have sB55 := B55.size
            have hB := hB.trans (B55.mono hB.size)
            have hBA := hBA.trans (B55.mono hBA.size)
            have m3 := m3.old B55
            have hO := own_below hO B55
            have ml : Blk w54 bl 3 [.int .i64 ((atL vs).getD (xs.length + j) 0)] := by simpa [Value.cells] using ml
            obtain ⟨o2, hat, ho2⟩ := own_pick hO bl (by omega) (by omega)
            refine s_app1 (o := o2) el29 hF (by decide) rfl rfl hO ml rfl (by simp [Value.oneCell']) hat (by omega) (by omega) (by decide) (by omega) fun v3 w56 a o3 hOn hOatn how hsrc k57 hkeep hF => ?_
            have sk57 := k57.size
            have hB := k57.under hB (by omega)
            have hBA := k57.under hBA (by omega)
            have m3 := m3.k2 k57 (by omega)
            have hO := hOn
            have hO_at := hOatn
            refine s_val hF (x_assign rfl) (by decide) fun a hF => ?_
            refine s_end (hK38 _ _ ?_)
            refine wp_region_lit ?_
            refine s_val hF (x_move rfl) (by decide) fun a hF => ?_
            refine s_val hF (x_addn (xs.length + (j + 1)) (by omega) (by omega) rfl rfl) (by decide) fun a hF => ?_
            refine s_val hF (x_assign rfl) (by decide) fun a hF => ?_
            refine s_end (hK' _ _ (by omega) ⟨v3, by rw [drop_take (by omega), ← List.append_assoc, ints_app]; exact hO, hBA, hF.sub _ rfl⟩)
          · have hdr : ((atL vs).drop xs.length).take j = (atL vs).drop xs.length := List.take_of_length_le (by rw [List.length_drop]; omega)
            rw [hdr] at hO
            obtain ⟨J, hJ⟩ : ∃ J, J = innerL τ (atL vs) xs.length ++ (atL vs).drop xs.length := ⟨_, rfl⟩
            rw [← hJ] at hO
            have hJ1 := Rd.own hO
            have hJl : J.length = xs.length + j := by simpa using hJ1.1
            rw [← hJl] at hJ1
            have hJ5 : J.length ≤ 200 := by omega
            have hBJ := Below.refl wc.heap.size wc
            clear hO
            refine wp_exit (hK34 _ _ ?_)
            have hnobad : ¬ ∃ i, bad ls (nfK s) i := by rintro ⟨i, _, _, l, h1, h2⟩; exact h2 (hsd i l (by have := (List.getElem?_eq_some_iff.1 h1).1; omega) h1)
            refine wp_rs fun K39 hK39 => ?_
            refine s_val hF (x_ldW wide24 m3 rfl rfl) (by decide) fun a hF => ?_
            refine s_val hF (x_move rfl) (by decide) fun a hF => ?_
            have hBt := hB
            refine s_callR (R := fun u w' => ∃ z, u = lv z ∧ (¬ sndL l → z = (0, 0, .slice none 0 0)) ∧ ∀ s, RS wc s x → s.good → ((∃ i, bad ls (nfK s) i) → z = (0, 0, .slice none 0 0)) ∧ ((¬ ∃ i, bad ls (nfK s) i) → RS w' (levF (nfC (instT (nfC s) (nfK s) τ (nfK s).length)) (nfK (instT (nfC s) (nfK s) τ (nfK s).length))) z)) [_, _] hF (enters_of Try.func27 (by kernel_rfl) rfl) rfl (by decide) (Inst27 x l xs ls _ τ wc (hL.old hB) (hU.below hB) hls (fun i x l h1 h2 => (hl i x l h1 h2).old hB) (fun i x l h1 h2 h3 => ⟨RS.below hB (hτ i x l h1 h2 h3).1, (hτ i x l h1 h2 h3).2⟩) hτ2) ?_
            rintro _ w58 a ⟨z1, rfl, hz1n, hz1y⟩ B59 hF
            have sB59 := B59.size
            have hB := hB.trans (B59.mono hB.size)
            have hBA := hBA.trans (B59.mono hBA.size)
            have hBJ := hBJ.trans (B59.mono hBJ.size)
            have m3 := m3.old B59
            have hz := (hz1y s (RS.below hBt hs) gs).2 hnobad
            have h1z := hz.one1
            have hBm := Below.refl w58.heap.size w58
            refine s_alloc hF (by decide) zero24 fun w60 b14 a eb14 m14 B61 zb14 hF => ?_
            have sB61 := B61.size
            have hB := hB.trans (B61.mono hB.size)
            have hBA := hBA.trans (B61.mono hBA.size)
            have hBJ := hBJ.trans (B61.mono hBJ.size)
            have hBm := hBm.trans (B61.mono hBm.size)
            have m3 := m3.old B61
            refine s_putW hF rfl rfl (size_wide wide24) m14 rfl (one_lc h1z) fun w62 m14 o63 => ?_
            have so63 := o63.size
            have hB := hB.trans (o63.below (by omega))
            have hBA := hBA.trans (o63.below (by omega))
            have hBJ := hBJ.trans (o63.below (by omega))
            have hBm := hBm.trans (o63.below (by omega))
            have m3 := m3.only o63 (by omega)
            refine s_end (hK39 _ _ ?_)
            have hfin := puts_val (vs := vs) gs hsl hgd hτ2
            rw [← hJ] at hfin
            rcases Classical.em (levF (nfC (instT (nfC s) (nfK s) τ (nfK s).length)) (nfK (instT (nfC s) (nfK s) τ (nfK s).length))).good with gz | gz
            · skip
              refine dk2_seq (w62.heap.size) (w62.heap.size) (ops := regOps Try.f10 22) (N := 16) (by kernel_rfl) wide_orders (by kernel_rfl) fun w64 hw64 B65 hS K41 hK41 => ?_
              have zw64 : w64.heap.size = w62.heap.size := by rw [hw64]
              have sB65 := B65.size
              have hB := hB.trans (B65.mono hB.size)
              have hBA := hBA.trans (B65.mono hBA.size)
              have hBJ := hBJ.trans (B65.mono hBJ.size)
              have hBm := hBm.trans (B65.mono hBm.size)
              have m3 := m3.old B65
              have m14 := m14.old B65
              have m3_d := m3
              have m14_d := m14
              have hB_d := hB
              have hBA_d := hBA
              have hBJ_d := hBJ
              have hBm_d := hBm
              refine d_val 0 87 (op := (Go.Op.load 24 (Go.Operand.tmp 14))) hF hS (by kernel_rfl) (fun W hW => x_ldW wide24 (m14_d.k2 hW (by omega)) rfl rfl) (by kernel_rfl) (by decide) fun a hF => ?_
              refine d_one 1 (some 88) (Go.Op.call (Go.Call.mk (Go.Callee.value (Go.Operand.func 17)) #[(Go.Operand.tmp 87)] #[24])) (by kernel_rfl) (by kernel_rfl) fun ty pos af => ?_
              refine s_callR (R := fun v w' => ∃ b, v = .bool b ∧ (b = true ↔ (levF (nfC (instT (nfC s) (nfK s) τ (nfK s).length)) (nfK (instT (nfC s) (nfK s) τ (nfK s).length))).good)) [_] hF (enters_of Try.func17 (by kernel_rfl) rfl) rfl (by decide) (sndS (RS.below hBm hz)) ?_
              rintro _ w66 a ⟨bs88, rfl, hbs88⟩ B67 hF
              have sB67 := B67.size
              have hB := hB.trans (B67.mono hB.size)
              have hBA := hBA.trans (B67.mono hBA.size)
              have hBJ := hBJ.trans (B67.mono hBJ.size)
              have hBm := hBm.trans (B67.mono hBm.size)
              have m3 := m3.old B67
              have m14 := m14.old B67
              have hS := hS.below B67
              obtain rfl : bs88 = true := hbs88.2 gz
              refine s_end ⟨hS, ?_⟩
              refine d_val 2 89 (op := (Go.Op.unOp Go.UnOp.not 4 (Go.Operand.tmp 88))) hF hS (by kernel_rfl) (fun W hW => x_not rfl) (by kernel_rfl) (by decide) fun a hF => ?_
              refine d_val 3 90 (op := (Go.Op.move (Go.Operand.tmp 89))) hF hS (by kernel_rfl) (fun W hW => x_move rfl) (by kernel_rfl) (by decide) fun a hF => ?_
              refine d_valg 4 91 90 (j := 3) (want := false) (op := (Go.Op.load 24 (Go.Operand.tmp 14))) hF hS (by kernel_rfl) (by kernel_rfl) rfl (fun W hW => x_ldW wide24 (m14_d.k2 hW (by omega)) rfl rfl) (by kernel_rfl) (by decide) fun a hF => ?_
              refine d_valg 5 92 90 (j := 3) (want := false) (op := (Go.Op.move (Go.Operand.tmp 7))) hF hS (by kernel_rfl) (by kernel_rfl) rfl (fun W hW => x_move rfl) (by kernel_rfl) (by decide) fun a hF => ?_
              refine d_valg 7 94 90 (j := 3) (want := false) (op := (Go.Op.load 24 (Go.Operand.tmp 3))) hF hS (by kernel_rfl) (by kernel_rfl) rfl (fun W hW => x_ldW wide24 (m3_d.k2 hW (by omega)) rfl rfl) (by kernel_rfl) (by decide) fun a hF => ?_
              refine d_valg 8 95 90 (j := 3) (want := false) (op := (Go.Op.move (Go.Operand.tmp 10))) hF hS (by kernel_rfl) (by kernel_rfl) rfl (fun W hW => x_move rfl) (by kernel_rfl) (by decide) fun a hF => ?_
              refine d_oneg 6 90 (some 93) (Go.Op.call (Go.Call.mk (Go.Callee.value (Go.Operand.func 29)) #[(Go.Operand.tmp 91), (Go.Operand.tmp 92)] #[24, 29])) (j := 3) (want := false) hF (by kernel_rfl) (by kernel_rfl) (by kernel_rfl) rfl fun ty pos af => ?_
              refine s_callB [_, _] hF (enters_of Try.func29 (by kernel_rfl) rfl) rfl (by decide) (valS (RS.below hBm hz) gz (hA.below hBA) (by omega)) fun w68 a B69 hF => ?_
              have sB69 := B69.size
              have hB := hB.trans (B69.mono hB.size)
              have hBA := hBA.trans (B69.mono hBA.size)
              have hBJ := hBJ.trans (B69.mono hBJ.size)
              have hBm := hBm.trans (B69.mono hBm.size)
              have m3 := m3.old B69
              have m14 := m14.old B69
              have hS := hS.below B69
              refine s_end ⟨hS, ?_⟩
              refine d_oneg 9 90 (some 96) (Go.Op.call (Go.Call.mk (Go.Callee.value (Go.Operand.func 29)) #[(Go.Operand.tmp 94), (Go.Operand.tmp 95)] #[24, 29])) (j := 3) (want := false) hF (by kernel_rfl) (by kernel_rfl) (by kernel_rfl) rfl fun ty pos af => ?_
              refine s_callB [_, _] hF (enters_of Try.func29 (by kernel_rfl) rfl) rfl (by decide) (valS (RS.below hB hs) gs (hJ1.below hBJ) (by omega)) fun w70 a B71 hF => ?_
              have sB71 := B71.size
              have hB := hB.trans (B71.mono hB.size)
              have hBA := hBA.trans (B71.mono hBA.size)
              have hBJ := hBJ.trans (B71.mono hBJ.size)
              have hBm := hBm.trans (B71.mono hBm.size)
              have m3 := m3.old B71
              have m14 := m14.old B71
              have hS := hS.below B71
              refine s_end ⟨hS, ?_⟩
              refine d_valg 10 97 90 (j := 3) (want := false) (op := (Go.Op.binOp Go.BinOp.eql 3 (Go.Operand.tmp 93) (Go.Operand.tmp 96) 3)) hF hS (by kernel_rfl) (by kernel_rfl) rfl (fun W hW => x_eql (b := true) (decide_eq_true hfin) rfl rfl) (by kernel_rfl) (by decide) fun a hF => ?_
              refine d_val 11 98 (op := (Go.Op.pick (Go.Operand.tmp 90) (Go.Operand.const (Go.Value.bool true)) (Go.Operand.tmp 97))) hF hS (by kernel_rfl) (fun W hW => x_pick (b := false) rfl rfl) (by kernel_rfl) (by decide) fun a hF => ?_
              refine d_val 12 99 (op := (Go.Op.move (Go.Operand.tmp 98))) hF hS (by kernel_rfl) (fun W hW => x_move rfl) (by kernel_rfl) (by decide) fun a hF => ?_
              refine d_oneg 13 99 (some 100) (Go.Op.call (Go.Call.mk (Go.Callee.value (Go.Operand.func 15)) #[] #[])) (j := 12) (want := true) hF (by kernel_rfl) (by kernel_rfl) (by kernel_rfl) rfl fun ty pos af => ?_
              refine s_callB [] hF (enters_of Try.func15 (by kernel_rfl) rfl) rfl (by decide) (awake15 w70) fun w72 a B73 hF => ?_
              have sB73 := B73.size
              have hB := hB.trans (B73.mono hB.size)
              have hBA := hBA.trans (B73.mono hBA.size)
              have hBJ := hBJ.trans (B73.mono hBJ.size)
              have hBm := hBm.trans (B73.mono hBm.size)
              have m3 := m3.old B73
              have m14 := m14.old B73
              have hS := hS.below B73
              refine s_end ⟨hS, ?_⟩
              refine d_val 14 101 (op := (Go.Op.pick (Go.Operand.tmp 99) (Go.Operand.tmp 100) (Go.Operand.const (Go.Value.bool false)))) hF hS (by kernel_rfl) (fun W hW => x_pick (b := true) rfl rfl) (by kernel_rfl) (by decide) fun a hF => ?_
              refine d_val 15 6 (op := (Go.Op.assign (Go.Operand.tmp 101))) hF hS (by kernel_rfl) (fun W hW => x_assign rfl) (by kernel_rfl) (by decide) fun a hF => ?_
              refine d_end (by kernel_rfl) (hK41 _ _ ?_)
              refine wp_ret (res_slot hF rfl rfl ⟨rfl, hB⟩)
            · skip
              refine dk2_seq (w62.heap.size) (w62.heap.size) (ops := regOps Try.f10 22) (N := 16) (by kernel_rfl) wide_orders (by kernel_rfl) fun w74 hw74 B75 hS K42 hK42 => ?_
              have zw74 : w74.heap.size = w62.heap.size := by rw [hw74]
              have sB75 := B75.size
              have hB := hB.trans (B75.mono hB.size)
              have hBA := hBA.trans (B75.mono hBA.size)
              have hBJ := hBJ.trans (B75.mono hBJ.size)
              have hBm := hBm.trans (B75.mono hBm.size)
              have m3 := m3.old B75
              have m14 := m14.old B75
              have m3_d := m3
              have m14_d := m14
              have hB_d := hB
              have hBA_d := hBA
              have hBJ_d := hBJ
              have hBm_d := hBm
              refine d_val 0 87 (op := (Go.Op.load 24 (Go.Operand.tmp 14))) hF hS (by kernel_rfl) (fun W hW => x_ldW wide24 (m14_d.k2 hW (by omega)) rfl rfl) (by kernel_rfl) (by decide) fun a hF => ?_
              refine d_one 1 (some 88) (Go.Op.call (Go.Call.mk (Go.Callee.value (Go.Operand.func 17)) #[(Go.Operand.tmp 87)] #[24])) (by kernel_rfl) (by kernel_rfl) fun ty pos af => ?_
              refine s_callR (R := fun v w' => ∃ b, v = .bool b ∧ (b = true ↔ (levF (nfC (instT (nfC s) (nfK s) τ (nfK s).length)) (nfK (instT (nfC s) (nfK s) τ (nfK s).length))).good)) [_] hF (enters_of Try.func17 (by kernel_rfl) rfl) rfl (by decide) (sndS (RS.below hBm hz)) ?_
              rintro _ w76 a ⟨bs88, rfl, hbs88⟩ B77 hF
              have sB77 := B77.size
              have hB := hB.trans (B77.mono hB.size)
              have hBA := hBA.trans (B77.mono hBA.size)
              have hBJ := hBJ.trans (B77.mono hBJ.size)
              have hBm := hBm.trans (B77.mono hBm.size)
              have m3 := m3.old B77
              have m14 := m14.old B77
              have hS := hS.below B77
              obtain rfl : bs88 = false := Bool.eq_false_iff.2 fun h => gz (hbs88.1 h)
              refine s_end ⟨hS, ?_⟩
              refine d_val 2 89 (op := (Go.Op.unOp Go.UnOp.not 4 (Go.Operand.tmp 88))) hF hS (by kernel_rfl) (fun W hW => x_not rfl) (by kernel_rfl) (by decide) fun a hF => ?_
              refine d_val 3 90 (op := (Go.Op.move (Go.Operand.tmp 89))) hF hS (by kernel_rfl) (fun W hW => x_move rfl) (by kernel_rfl) (by decide) fun a hF => ?_
              refine d_skip 4 91 90 (j := 3) (want := false) (op := (Go.Op.load 24 (Go.Operand.tmp 14))) hF hS (by kernel_rfl) (by kernel_rfl) rfl (by kernel_rfl) (by decide) fun a hF => ?_
              refine d_skip 5 92 90 (j := 3) (want := false) (op := (Go.Op.move (Go.Operand.tmp 7))) hF hS (by kernel_rfl) (by kernel_rfl) rfl (by kernel_rfl) (by decide) fun a hF => ?_
              refine d_skip 6 93 90 (j := 3) (want := false) (op := (Go.Op.call (Go.Call.mk (Go.Callee.value (Go.Operand.func 29)) #[(Go.Operand.tmp 91), (Go.Operand.tmp 92)] #[24, 29]))) hF hS (by kernel_rfl) (by kernel_rfl) rfl (by kernel_rfl) (by decide) fun a hF => ?_
              refine d_skip 7 94 90 (j := 3) (want := false) (op := (Go.Op.load 24 (Go.Operand.tmp 3))) hF hS (by kernel_rfl) (by kernel_rfl) rfl (by kernel_rfl) (by decide) fun a hF => ?_
              refine d_skip 8 95 90 (j := 3) (want := false) (op := (Go.Op.move (Go.Operand.tmp 10))) hF hS (by kernel_rfl) (by kernel_rfl) rfl (by kernel_rfl) (by decide) fun a hF => ?_
              refine d_skip 9 96 90 (j := 3) (want := false) (op := (Go.Op.call (Go.Call.mk (Go.Callee.value (Go.Operand.func 29)) #[(Go.Operand.tmp 94), (Go.Operand.tmp 95)] #[24, 29]))) hF hS (by kernel_rfl) (by kernel_rfl) rfl (by kernel_rfl) (by decide) fun a hF => ?_
              refine d_skip 10 97 90 (j := 3) (want := false) (op := (Go.Op.binOp Go.BinOp.eql 3 (Go.Operand.tmp 93) (Go.Operand.tmp 96) 3)) hF hS (by kernel_rfl) (by kernel_rfl) rfl (by kernel_rfl) (by decide) fun a hF => ?_
              refine d_val 11 98 (op := (Go.Op.pick (Go.Operand.tmp 90) (Go.Operand.const (Go.Value.bool true)) (Go.Operand.tmp 97))) hF hS (by kernel_rfl) (fun W hW => x_pick (b := true) rfl rfl) (by kernel_rfl) (by decide) fun a hF => ?_
              refine d_val 12 99 (op := (Go.Op.move (Go.Operand.tmp 98))) hF hS (by kernel_rfl) (fun W hW => x_move rfl) (by kernel_rfl) (by decide) fun a hF => ?_
              refine d_oneg 13 99 (some 100) (Go.Op.call (Go.Call.mk (Go.Callee.value (Go.Operand.func 15)) #[] #[])) (j := 12) (want := true) hF (by kernel_rfl) (by kernel_rfl) (by kernel_rfl) rfl fun ty pos af => ?_
              refine s_callB [] hF (enters_of Try.func15 (by kernel_rfl) rfl) rfl (by decide) (awake15 w76) fun w78 a B79 hF => ?_
              have sB79 := B79.size
              have hB := hB.trans (B79.mono hB.size)
              have hBA := hBA.trans (B79.mono hBA.size)
              have hBJ := hBJ.trans (B79.mono hBJ.size)
              have hBm := hBm.trans (B79.mono hBm.size)
              have m3 := m3.old B79
              have m14 := m14.old B79
              have hS := hS.below B79
              refine s_end ⟨hS, ?_⟩
              refine d_val 14 101 (op := (Go.Op.pick (Go.Operand.tmp 99) (Go.Operand.tmp 100) (Go.Operand.const (Go.Value.bool false)))) hF hS (by kernel_rfl) (fun W hW => x_pick (b := true) rfl rfl) (by kernel_rfl) (by decide) fun a hF => ?_
              refine d_val 15 6 (op := (Go.Op.assign (Go.Operand.tmp 101))) hF hS (by kernel_rfl) (fun W hW => x_assign rfl) (by kernel_rfl) (by decide) fun a hF => ?_
              refine d_end (by kernel_rfl) (hK42 _ _ ?_)
              refine wp_ret (res_slot hF rfl rfl ⟨rfl, hB⟩)
end Go.Proofs.Ytnnkggfhhkhnmaa
