/- The reference's Inst; LevelInst. -/
import Derived.Test.YtnnkggfhhkhnmaaLev13
namespace Go.Proofs.Ytnnkggfhhkhnmaa
open Go.RowKit Go.Shelf
set_option linter.unusedVariables false
set_option linter.unusedSimpArgs false

theorem nfK_succ_len {n : Nat} {s : SL} (h : s.nums 1099511627776 1001) : (nfK (.succ n s)).length ≤ 1001 := by
  rw [nfK, rk]
  exact rk_len s _ [] 1001 h (by simp)
theorem trim_len : ∀ (f : Nat) (K : List Int), (trim f K).length ≤ K.length
  | 0, K => Nat.le_refl _
  | f + 1, K => by
    unfold trim
    split
    · exact Nat.le_trans (trim_len f _) (by rw [List.length_take]; omega)
    · exact Nat.le_refl _

set_option maxRecDepth 100000 in
set_option maxHeartbeats 1600000 in
theorem rInst28 (x : C3) (l : Lv) (xs : List C3) (ls : List Lv) (v : Value) (τ : Nat → SL) (w0 : World) (hL : RL w0 x l) (hV : Rd w0 v 3 xs.length (xs.flatMap lc)) (hls : xs.length = ls.length) (hl : ∀ (i : Nat) x l, xs[i]? = some x → ls[i]? = some l → RL w0 x l) (hτ : ∀ (i : Nat) x l, xs[i]? = some x → ls[i]? = some l → sndL l → RS w0 (τ i) x ∧ (τ i).good) (hτ2 : ∀ i, xs.length ≤ i → τ i = .var i) : Calls Try.prog 28 #[lv x, v] w0 fun e w' => ∃ u, e = .returned u ∧ (∃ z, u = lv z ∧ (¬ sndL l → z = (0, 0, .slice none 0 0)) ∧ ∀ s, RS w0 s x → s.good → ((∃ i, bad ls (nfK s) i) → z = (0, 0, .slice none 0 0)) ∧ ((¬ ∃ i, bad ls (nfK s) i) → RS w' (levF (nfC (instT (nfC s) (nfK s) τ (nfK s).length)) (nfK (instT (nfC s) (nfK s) τ (nfK s).length))) z)) ∧ Below w0.heap.size w0 w' := by
  obtain ⟨av, cv, rfl, _⟩ := hV.form
  have hB := Below.refl w0.heap.size w0
  have sB := hB.size
  refine calls_fs 52 [(0, lv x), (1, .slice av xs.length cv)] Try.func28 rfl rfl rfl rfl rfl fun a hF => ?_
  refine wp_rs fun K1 hK1 => ?_
  refine s_box (lc x) hF (by decide) rfl rfl fun w2 b2 a eb2 m2 B3 zb2 hF => ?_
  have sB3 := B3.size
  have hB := hB.trans (B3.mono hB.size)
  refine s_alloc hF (by decide) zero24 fun w4 b4 a eb4 m4 B5 zb4 hF => ?_
  have sB5 := B5.size
  have hB := hB.trans (B5.mono hB.size)
  have m2 := m2.old B5
  refine s_end (hK1 _ _ ?_)
  refine wp_seq_k fun K2 hK2 => ?_
  rcases (show decide (sndL l) = false ∨ decide (sndL l) = true by cases decide (sndL l) <;> simp) with hd | hd
  · have hn : ¬ sndL l := of_decide_eq_false hd
    refine wp_rs fun K4 hK4 => ?_
    refine s_val hF (x_ldW wide24 m2 rfl rfl) (by decide) fun a hF => ?_
    refine s_callB [_] hF (enters_of Try.func17 (by kernel_rfl) rfl) rfl (by decide) (rSound17 x l w4 (hL.old hB)) fun w6 a B7 hF => ?_
    have sB7 := B7.size
    have hB := hB.trans (B7.mono hB.size)
    have m2 := m2.old B7
    have m4 := m4.old B7
    rw [hd] at hF
    refine s_val hF (x_not rfl) (by decide) fun a hF => ?_
    refine s_end (hK4 _ _ ?_)
    refine wp_if hF rfl ?_
    refine wp_rs fun K5 hK5 => ?_
    refine s_val hF (x_build (vs := []) rfl (b24_ _)) (by decide) fun a hF => ?_
    refine s_putW hF rfl rfl (size_wide wide24) m4 rfl (one3 rfl) fun w8 m4 o9 => ?_
    have so9 := o9.size
    have hB := hB.trans (o9.below (by omega))
    have m2 := m2.only o9 (by omega)
    refine s_end (hK5 _ _ ?_)
    refine wp_ret (then_ret (res_cell hF rfl rfl m4 wide24 ⟨_, rfl, ⟨(0, 0, .slice none 0 0), rfl, fun _ => rfl, fun s hs hsg => absurd (rs_snd hL hs hsg) hn⟩, hB⟩))
  · have hn : sndL l := of_decide_eq_true hd
    obtain ⟨s, hs, hsg⟩ := sound_sl hL hn
    have hsl := nfK_len s hsg
    refine wp_rs fun K6 hK6 => ?_
    refine s_val hF (x_ldW wide24 m2 rfl rfl) (by decide) fun a hF => ?_
    refine s_callB [_] hF (enters_of Try.func17 (by kernel_rfl) rfl) rfl (by decide) (rSound17 x l w4 (hL.old hB)) fun w10 a B11 hF => ?_
    have sB11 := B11.size
    have hB := hB.trans (B11.mono hB.size)
    have m2 := m2.old B11
    have m4 := m4.old B11
    rw [hd] at hF
    refine s_val hF (x_not rfl) (by decide) fun a hF => ?_
    refine s_end (hK6 _ _ ?_)
    refine wp_if hF rfl ?_
    refine wp_skip (hK2 _ _ ?_)
    refine wp_rs fun K7 hK7 => ?_
    refine s_val hF (x_ldW wide24 m2 rfl rfl) (by decide) fun a hF => ?_
    refine s_callR (R := fun u w' => ∃ v', u = .agg [.int .i64 (nfC s), v'].toArray ∧ Rd w' v' 1 (nfK s).length (ints (nfK s)) ∧ ∀ j, v'.ownBlock = some j → w10.heap.size ≤ j) [_] hF (enters_of Try.func20 (by kernel_rfl) rfl) rfl (by decide) (rNorm20 s x w10 (RS.below hB hs) hsg.2.2) ?_
    rintro _ w12 a ⟨v5, rfl, hv5, hy5⟩ B13 hF
    have sB13 := B13.size
    have hB := hB.trans (B13.mono hB.size)
    have m2 := m2.old B13
    have m4 := m4.old B13
    obtain ⟨ak, ck, hvk, _⟩ := hv5.form
    subst hvk
    have hB1 := Below.refl w12.heap.size w12
    refine s_alloc hF (by decide) zero36 fun w14 b5 a eb5 m5 B15 zb5 hF => ?_
    have sB15 := B15.size
    have hB := hB.trans (B15.mono hB.size)
    have hB1 := hB1.trans (B15.mono hB1.size)
    have m2 := m2.old B15
    have m4 := m4.old B15
    refine s_putW hF rfl rfl (size_wide wide36) m5 rfl (one2 rfl) fun w16 m5 o17 => ?_
    have so17 := o17.size
    have hB := hB.trans (o17.below (by omega))
    have hB1 := hB1.trans (o17.below (by omega))
    have m2 := m2.only o17 (by omega)
    have m4 := m4.only o17 (by omega)
    refine s_end (hK7 _ _ ?_)
    refine wp_rs fun K8 hK8 => ?_
    refine s_val hF (x_fa0 fa36_0 rfl) (by decide) fun a hF => ?_
    refine s_val hF (x_load rfl (m_load flat3 (m5.cell (j := 0) rfl))) (by decide) fun a hF => ?_
    refine s_val hF (x_build (vs := [(0, _)]) rfl (b36_0 _ _)) (by decide) fun a hF => ?_
    refine s_alloc hF (by decide) zero36 fun w18 b6 a eb6 m6 B19 zb6 hF => ?_
    have sB19 := B19.size
    have hB := hB.trans (B19.mono hB.size)
    have hB1 := hB1.trans (B19.mono hB1.size)
    have m2 := m2.old B19
    have m4 := m4.old B19
    have m5 := m5.old B19
    refine s_putW hF rfl rfl (size_wide wide36) m6 rfl (one2 rfl) fun w20 m6 o21 => ?_
    have so21 := o21.size
    have hB := hB.trans (o21.below (by omega))
    have hB1 := hB1.trans (o21.below (by omega))
    have m2 := m2.only o21 (by omega)
    have m4 := m4.only o21 (by omega)
    have m5 := m5.only o21 (by omega)
    refine s_end (hK8 _ _ ?_)
    refine wp_seq_k fun K9 hK9 => ?_
    refine wp_rs fun K10 hK10 => ?_
    refine s_val hF (x_fa0 fa36_1 rfl) (by decide) fun a hF => ?_
    refine s_val hF (x_load rfl (m_load flat29 (m5.cell (j := 1) rfl))) (by decide) fun a hF => ?_
    refine s_val hF (x_len Try.underlying29 rfl) (by decide) fun a hF => ?_
    refine s_val hF (x_move rfl) (by decide) fun a hF => ?_
    refine s_end (hK10 _ _ ?_)
    refine wp_block ?_
    have hbb : w0.heap.size ≤ b4 ∧ b4 < b5 ∧ b5 < b6 ∧ w12.heap.size ≤ b5 ∧ b4 < w12.heap.size := ⟨by omega, by omega, by omega, by omega, by omega⟩
    obtain ⟨hn1, hn2⟩ := nf_num (nfC s).toNat (by have := nfC_le s; omega)
    refine wp_up (nfK s).length (fun i a w => ∃ v6, Blk w b6 36 [.int .i64 (nfC (instT (nfC s) (nfK s) τ i)), v6] ∧ Rd w v6 1 (nfK (instT (nfC s) (nfK s) τ i)).length (ints (nfK (instT (nfC s) (nfK s) τ i))) ∧ (∀ j, v6.ownBlock = some j → b6 < j) ∧ (nfK (instT (nfC s) (nfK s) τ i)).length ≤ 1001 ∧ (∀ j, j < i → ¬ bad ls (nfK s) j) ∧ Blk w b4 24 [.int .i64 0, .int .i64 0, .slice none 0 0] ∧ Below w0.heap.size w0 w ∧ Below w12.heap.size w12 w ∧ Fs 52 a [(22, .int .i64 (i : Int)), (21, .int .i64 ((nfK s).length : Int)), (20, .slice ak (nfK s).length ck), (1, .slice av xs.length cv), (4, .pointer (some ⟨b4, 0, none⟩)), (6, .pointer (some ⟨b6, 0, none⟩))]) ⟨_, by rw [instT, hn1, show (((nfC s).toNat : Nat) : Int) = nfC s by have := nfC_nn s; omega]; exact m6, by rw [instT, hn2]; exact Rd.nil _ _, (fun j h => by cases h), by rw [instT, hn2]; decide, (fun j h => by omega), m4, hB, hB1, hF.sub _ rfl⟩ ?_
    repeat clear hF
    clear hB hB1 m4 m6
    rintro i a w hi ⟨v6, m6, hv6, hy6, hLl, hnb, m4, hB, hB1, hF⟩ K' hK'
    have sB := hB.size
    have sB1 := hB1.size
    have h6l := m6.lt
    have hvq6 : ∀ j, v6.ownBlock = some j → 0 < (nfK (instT (nfC s) (nfK s) τ i)).length → j < w.heap.size ∧ b6 < j := fun j h h0 => ⟨hv6.lt h0 h, hy6 j h⟩
    have h1v6 := hv6.one
    refine wp_rs fun K11 hK11 => ?_
    refine s_val hF (x_lss (b := decide (i < (nfK s).length)) (decide_eq_decide.2 (by omega)) rfl rfl) (by decide) fun a hF => ?_
    refine s_end (hK11 _ _ ?_)
    refine wp_seq_k fun K12 hK12 => ?_
    refine wp_iff hF rfl (fun hc23 => ?_) (fun hc23 => ?_)
    · obtain ⟨b9, off9, c9, hve, hrow⟩ := rd_rowI hv5 (i := i) (by omega)
      cases hve
      have hgi := (nfK_lo s).gt i
      have hgh := nfK_hi s i
      refine wp_skip (hK12 _ _ ?_)
      refine wp_seq_k fun K13 hK13 => ?_
      refine wp_block ?_
      refine wp_rs fun K14 hK14 => ?_
      refine s_val hF (x_move rfl) (by decide) fun a hF => ?_
      refine s_val hF (x_ixa rfl rfl (m_ixs i Try.underlying29 el29.size rfl (by omega))) (by decide) fun a hF => ?_
      refine s_val hF (x_load rfl (m_load flat3 (hrow _ hB1))) (by decide) fun a hF => ?_
      refine s_val hF (x_assign rfl) (by decide) fun a hF => ?_
      refine s_val hF (x_assign rfl) (by decide) fun a hF => ?_
      refine s_end (hK14 _ _ ?_)
      refine wp_seq_k fun K15 hK15 => ?_
      rcases (show gt (nfK s) i = -1 ∨ (gt (nfK s) i ≠ -1 ∧ xs.length ≤ i) ∨ ((gt (nfK s) i ≠ -1 ∧ i < xs.length) ∧ ∃ ly, ls[i]? = some ly ∧ decide (sndL ly) = false) ∨ ((gt (nfK s) i ≠ -1 ∧ i < xs.length) ∧ ∃ ly, ls[i]? = some ly ∧ decide (sndL ly) = true) by by_cases h1 : gt (nfK s) i = -1; (· exact .inl h1); by_cases h2 : xs.length ≤ i; (· exact .inr (.inl ⟨h1, h2⟩)); (have h3 : ls[i]? = some (ls[i]'(by omega)) := List.getElem?_eq_getElem (by omega)); cases h4 : decide (sndL (ls[i]'(by omega))); (· exact .inr (.inr (.inl ⟨⟨h1, by omega⟩, _, h3, h4⟩))); (· exact .inr (.inr (.inr ⟨⟨h1, by omega⟩, _, h3, h4⟩)))) with hg | ⟨hc8, hg⟩ | ⟨⟨hc8, hg⟩, ly, hli, hd2⟩ | ⟨⟨hc8, hg⟩, ly, hli, hd2⟩
      · have hnb2 : ∀ j, j < i + 1 → ¬ bad ls (nfK s) j := by
          intro j hj hb
          rcases Nat.lt_or_ge j i with h | h
          · exact hnb j h hb
          · have hji : j = i := by omega
            subst hji
            exact hb.2.1 hg
        have hT2 : instT (nfC s) (nfK s) τ (i + 1) = (instT (nfC s) (nfK s) τ i) := by rw [instT, if_pos hg]
        refine wp_rs fun K17 hK17 => ?_
        refine s_val hF (x_move rfl) (by decide) fun a hF => ?_
        refine s_val hF (x_lss (b := true) (decide_eq_true (by omega)) rfl rfl) (by decide) fun a hF => ?_
        refine s_end (hK17 _ _ ?_)
        refine wp_if hF rfl ?_
        refine wp_exit (hK13 _ _ ?_)
        refine wp_region_lit ?_
        refine s_val hF (x_addn (i + 1) (by omega) (by omega) rfl rfl) (by decide) fun a hF => ?_
        refine s_val hF (x_move rfl) (by decide) fun a hF => ?_
        refine s_end (hK' _ _ (by omega) ⟨v6, by rw [hT2]; exact m6, by rw [hT2]; exact hv6, hy6, by rw [hT2]; exact hLl, hnb2, m4, hB, hB1, hF.sub _ rfl⟩)
      · have hstep : instT (nfC s) (nfK s) τ (i + 1) = .mx (instT (nfC s) (nfK s) τ i) (.succ (gt (nfK s) i).toNat (τ i)) := by rw [instT, if_neg hc8]
        have hti : RS w0 (τ i) (2, (i : Int), .slice none 0 0) ∧ (τ i).good := by rw [hτ2 i hg]; exact ⟨⟨rfl, rfl, Rd.nil _ _⟩, by simp [SL.size], by simp [SL.dep], by show i < 1001; omega⟩
        have hnb2 : ∀ j, j < i + 1 → ¬ bad ls (nfK s) j := by
          intro j hj hb
          rcases Nat.lt_or_ge j i with h | h
          · exact hnb j h hb
          · have hji : j = i := by omega
            subst hji
            exact by obtain ⟨_, _, l9, h9, _⟩ := hb; have := (List.getElem?_eq_some_iff.1 h9).1; omega
        refine wp_rs fun K18 hK18 => ?_
        refine s_val hF (x_move rfl) (by decide) fun a hF => ?_
        refine s_val hF (x_lss (b := false) (decide_eq_false (by omega)) rfl rfl) (by decide) fun a hF => ?_
        refine s_end (hK18 _ _ ?_)
        refine wp_if hF rfl ?_
        refine wp_skip (hK15 _ _ ?_)
        refine wp_rs fun K19 hK19 => ?_
        refine s_val hF (x_move rfl) (by decide) fun a hF => ?_
        refine s_val hF (x_build (vs := [(0, _), (1, _)]) rfl (b24_01 _ _ _)) (by decide) fun a hF => ?_
        refine s_alloc hF (by decide) zero24 fun w22 b9 a eb9 m9 B23 zb9 hF => ?_
        have sB23 := B23.size
        have hB := hB.trans (B23.mono hB.size)
        have hB1 := hB1.trans (B23.mono hB1.size)
        have m4 := m4.old B23
        have m6 := m6.old B23
        have hv6 := hv6.below B23
        refine s_putW hF rfl rfl (size_wide wide24) m9 rfl (one3 rfl) fun w24 m9 o25 => ?_
        have so25 := o25.size
        have hB := hB.trans (o25.below (by omega))
        have hB1 := hB1.trans (o25.below (by omega))
        have m4 := m4.only o25 (by omega)
        have m6 := m6.only o25 (by omega)
        have hv6 := rd_onlyZ hv6 o25 (fun j h hp => by have := hvq6 j h hp; omega)
        refine s_end (hK19 _ _ ?_)
        refine wp_seq_k fun K20 hK20 => ?_
        refine wp_rs fun K21 hK21 => ?_
        refine s_val hF (x_move rfl) (by decide) fun a hF => ?_
        refine s_val hF (x_move rfl) (by decide) fun a hF => ?_
        refine s_val hF (x_len Try.underlying22 rfl) (by decide) fun a hF => ?_
        refine s_val hF (x_lss (b := false) (decide_eq_false (by omega)) rfl rfl) (by decide) fun a hF => ?_
        refine s_end (hK21 _ _ ?_)
        refine wp_if hF rfl ?_
        refine wp_skip (hK20 _ _ ?_)
        refine wp_seq_k fun K22 hK22 => ?_
        refine wp_rs fun K23 hK23 => ?_
        refine s_val hF (x_ldW wide24 m9 rfl rfl) (by decide) fun a hF => ?_
        refine s_callR (R := fun v w' => ∃ b, v = .bool b ∧ (b = true ↔ (SL.var i).good)) [_] hF (enters_of Try.func17 (by kernel_rfl) rfl) rfl (by decide) (sndS (s := .var i) (x := (2, (i : Int), .slice none 0 0)) ⟨rfl, rfl, Rd.nil _ _⟩) ?_
        rintro _ w26 a ⟨bm, rfl, hbm⟩ B27 hF
        have sB27 := B27.size
        have hB := hB.trans (B27.mono hB.size)
        have hB1 := hB1.trans (B27.mono hB1.size)
        have m4 := m4.old B27
        have m6 := m6.old B27
        have hv6 := hv6.below B27
        have m9 := m9.old B27
        obtain rfl : bm = true := hbm.2 ⟨by simp [SL.size], by simp [SL.dep], by show i < 1001; omega⟩
        refine s_val hF (x_not rfl) (by decide) fun a hF => ?_
        refine s_end (hK23 _ _ ?_)
        refine wp_if hF rfl ?_
        refine wp_skip (hK22 _ _ ?_)
        refine dk2_one (b6) (b6) (ops := regOps Try.f28 14) (N := 7) (by kernel_rfl) wide_orders (by kernel_rfl) fun w28 hw28 B29 hS K24 hK24 => ?_
        have zw28 : w28.heap.size = w26.heap.size := by rw [hw28]
        have sB29 := B29.size
        have hB := hB.trans (B29.mono hB.size)
        have hB1 := hB1.trans (B29.mono hB1.size)
        have m4 := m4.old B29
        have m6 := m6.old B29
        have hv6 := hv6.below B29
        have m9 := m9.old B29
        have m4_d := m4
        have m6_d := m6
        have hv6_d := hv6
        have m9_d := m9
        have hB_d := hB
        have hB1_d := hB1
        refine d_val 1 44 (op := (Go.Op.load 24 (Go.Operand.tmp 9))) hF hS (by kernel_rfl) (fun W hW => x_ldW wide24 (m9_d.k2 hW (by omega)) rfl rfl) (by kernel_rfl) (by decide) fun a hF => ?_
        refine d_val 3 46 (op := (Go.Op.move (Go.Operand.tmp 8))) hF hS (by kernel_rfl) (fun W hW => x_move rfl) (by kernel_rfl) (by decide) fun a hF => ?_
        refine d_two 0 2 (by kernel_rfl) ?_ ?_
        · refine d_op 0 (some 43) (Go.Op.load 36 (Go.Operand.tmp 6)) (by kernel_rfl) fun ty pos af => ?_
          refine s_val hF (x_ldW wide36 m6 rfl rfl) (by decide) fun a hF => ?_
          refine s_end ⟨hS, ?_⟩
          refine d_one 2 (some 45) (Go.Op.call (Go.Call.mk (Go.Callee.value (Go.Operand.func 20)) #[(Go.Operand.tmp 44)] #[24])) (by kernel_rfl) (by kernel_rfl) fun ty pos af => ?_
          refine s_callR (R := fun u w' => ∃ v', u = .agg [.int .i64 (nfC (τ i)), v'].toArray ∧ Rd w' v' 1 (nfK (τ i)).length (ints (nfK (τ i))) ∧ ∀ j, v'.ownBlock = some j → w28.heap.size ≤ j) [_] hF (enters_of Try.func20 (by kernel_rfl) rfl) rfl (by decide) (rNorm20 (τ i) (2, (i : Int), .slice none 0 0) w28 (RS.below hB hti.1) hti.2.2.2) ?_
          rintro _ w30 a ⟨v7, rfl, hv7, hy7⟩ B31 hF
          have sB31 := B31.size
          have hB := hB.trans (B31.mono hB.size)
          have hB1 := hB1.trans (B31.mono hB1.size)
          have m4 := m4.old B31
          have m6 := m6.old B31
          have hv6 := hv6.below B31
          have m9 := m9.old B31
          have hS := hS.below B31
          have hvq7 : ∀ j, v7.ownBlock = some j → 0 < (nfK (τ i)).length → j < w30.heap.size ∧ w28.heap.size ≤ j := fun j h h0 => ⟨hv7.lt h0 h, hy7 j h⟩
          refine s_end ⟨hS, ?_⟩
          refine d_one 4 (some 47) (Go.Op.call (Go.Call.mk (Go.Callee.value (Go.Operand.func 42)) #[(Go.Operand.tmp 45), (Go.Operand.tmp 46)] #[36, 3])) (by kernel_rfl) (by kernel_rfl) fun ty pos af => ?_
          refine s_callR (R := fun u w' => ∃ v', u = .agg [.int .i64 (setl (plusC (nfC (τ i)) (nfK (τ i)) (gt (nfK s) i)) (tidyK (plusK (nfK (τ i)) (gt (nfK s) i)))), v'].toArray ∧ Rd w' v' 1 (tidyK (plusK (nfK (τ i)) (gt (nfK s) i))).length (ints (tidyK (plusK (nfK (τ i)) (gt (nfK s) i)))) ∧ ∀ j, v'.ownBlock = some j → w30.heap.size ≤ j) [_, _] hF (enters_of Try.func42 (by kernel_rfl) rfl) rfl (by decide) (plus42 (nfC (τ i)) (nfK (τ i)) _ (gt (nfK s) i) w30 (nfC_nn _) (nfC_le _) (by omega) (by omega) (by have := nfK_len _ hti.2; omega) (nfK_lo _) (nfK_hi _) hv7) ?_
          rintro _ w32 a ⟨v8, rfl, hv8, hy8⟩ B33 hF
          have sB33 := B33.size
          have hB := hB.trans (B33.mono hB.size)
          have hB1 := hB1.trans (B33.mono hB1.size)
          have m4 := m4.old B33
          have m6 := m6.old B33
          have hv6 := hv6.below B33
          have m9 := m9.old B33
          have hv7 := hv7.below B33
          have hS := hS.below B33
          rw [show gt (nfK s) i = (((gt (nfK s) i).toNat : Nat) : Int) by omega] at hv8 hF
          rw [plusK_is] at hv8 hF
          rw [plusC_is] at hF
          have hvq8 : ∀ j, v8.ownBlock = some j → 0 < (nfK (.succ (gt (nfK s) i).toNat (τ i))).length → j < w32.heap.size ∧ w30.heap.size ≤ j := fun j h h0 => ⟨hv8.lt h0 h, hy8 j h⟩
          refine s_end ⟨hS, ?_⟩
          refine d_one 5 (some 48) (Go.Op.call (Go.Call.mk (Go.Callee.value (Go.Operand.func 43)) #[(Go.Operand.tmp 43), (Go.Operand.tmp 47)] #[36, 36])) (by kernel_rfl) (by kernel_rfl) fun ty pos af => ?_
          refine s_callR (R := fun u w' => ∃ v', u = .agg [.int .i64 (setl (max (nfC (instT (nfC s) (nfK s) τ i)) (nfC (.succ (gt (nfK s) i).toNat (τ i)))) (tidyK (bothK (nfK (instT (nfC s) (nfK s) τ i)) (nfK (.succ (gt (nfK s) i).toNat (τ i)))))), v'].toArray ∧ Rd w' v' 1 (tidyK (bothK (nfK (instT (nfC s) (nfK s) τ i)) (nfK (.succ (gt (nfK s) i).toNat (τ i))))).length (ints (tidyK (bothK (nfK (instT (nfC s) (nfK s) τ i)) (nfK (.succ (gt (nfK s) i).toNat (τ i)))))) ∧ ∀ j, v'.ownBlock = some j → w32.heap.size ≤ j) [_, _] hF (enters_of Try.func43 (by kernel_rfl) rfl) rfl (by decide) (both43 (nfC (instT (nfC s) (nfK s) τ i)) (nfC (.succ (gt (nfK s) i).toNat (τ i))) (nfK (instT (nfC s) (nfK s) τ i)) (nfK (.succ (gt (nfK s) i).toNat (τ i))) _ _ w32 (nfC_nn _) (nfC_nn _) (by omega) (by have := nfK_succ_len (n := (gt (nfK s) i).toNat) hti.2.2.2; omega) (nfK_lo _) (nfK_lo _) hv6 hv8) ?_
          rintro _ w34 a ⟨v3, rfl, hv3, hy3⟩ B35 hF
          have sB35 := B35.size
          have hB := hB.trans (B35.mono hB.size)
          have hB1 := hB1.trans (B35.mono hB1.size)
          have m4 := m4.old B35
          have m6 := m6.old B35
          have hv6 := hv6.below B35
          have m9 := m9.old B35
          have hv8 := hv8.below B35
          have hS := hS.below B35
          rw [bothK_is] at hv3 hF
          rw [← nfC_mx] at hF
          rw [← hstep] at hv3 hF
          have h1v3 := hv3.one
          have hvq3 : ∀ j, v3.ownBlock = some j → 0 < (nfK (instT (nfC s) (nfK s) τ (i + 1))).length → j < w34.heap.size ∧ w32.heap.size ≤ j := fun j h h0 => ⟨hv3.lt h0 h, hy3 j h⟩
          have hl3 : (nfK (instT (nfC s) (nfK s) τ (i + 1))).length ≤ 1001 := by
            have e1 : (nfK (instT (nfC s) (nfK s) τ (i + 1))).length ≤ max (nfK (instT (nfC s) (nfK s) τ i)).length (nfK (.succ (gt (nfK s) i).toNat (τ i))).length := by
              rw [hstep, ← bothK_is]
              exact Nat.le_trans (trim_len _ _) (by simp [bothK])
            have e2 := nfK_succ_len (n := (gt (nfK s) i).toNat) hti.2.2.2
            omega
          refine s_end ⟨hS, ?_⟩
          refine d_one 6 none (Go.Op.store 36 (Go.Operand.tmp 6) (Go.Operand.tmp 48)) (by kernel_rfl) (by kernel_rfl) fun ty pos af => ?_
          refine s_putW hF rfl rfl (size_wide wide36) m6 rfl (one2 h1v3) fun w36 m6 o37 => ?_
          have so37 := o37.size
          have hB := hB.trans (o37.below (by omega))
          have hB1 := hB1.trans (o37.below (by omega))
          have m4 := m4.only o37 (by omega)
          have m9 := m9.only o37 (by omega)
          have hv3 := rd_onlyZ hv3 o37 (fun j h hp => by have := hvq3 j h hp; omega)
          have hS := hS.only o37 (by omega)
          refine s_end ⟨hS, ?_⟩
          refine d_end (by kernel_rfl) (hK24 _ _ ?_)
          refine hK13 _ _ ?_
          refine wp_region_lit ?_
          refine s_val hF (x_addn (i + 1) (by omega) (by omega) rfl rfl) (by decide) fun a hF => ?_
          refine s_val hF (x_move rfl) (by decide) fun a hF => ?_
          refine s_end (hK' _ _ (by omega) ⟨v3, m6, hv3, (fun j h => by have := hy3 j h; omega), hl3, hnb2, m4, hB, hB1, hF.sub _ rfl⟩)
        · refine d_op 2 (some 45) (Go.Op.call (Go.Call.mk (Go.Callee.value (Go.Operand.func 20)) #[(Go.Operand.tmp 44)] #[24])) (by kernel_rfl) fun ty pos af => ?_
          refine s_callR (R := fun u w' => ∃ v', u = .agg [.int .i64 (nfC (τ i)), v'].toArray ∧ Rd w' v' 1 (nfK (τ i)).length (ints (nfK (τ i))) ∧ ∀ j, v'.ownBlock = some j → w28.heap.size ≤ j) [_] hF (enters_of Try.func20 (by kernel_rfl) rfl) rfl (by decide) (rNorm20 (τ i) (2, (i : Int), .slice none 0 0) w28 (RS.below hB hti.1) hti.2.2.2) ?_
          rintro _ w38 a ⟨v7, rfl, hv7, hy7⟩ B39 hF
          have sB39 := B39.size
          have hB := hB.trans (B39.mono hB.size)
          have hB1 := hB1.trans (B39.mono hB1.size)
          have m4 := m4.old B39
          have m6 := m6.old B39
          have hv6 := hv6.below B39
          have m9 := m9.old B39
          have hS := hS.below B39
          have hvq7 : ∀ j, v7.ownBlock = some j → 0 < (nfK (τ i)).length → j < w38.heap.size ∧ w28.heap.size ≤ j := fun j h h0 => ⟨hv7.lt h0 h, hy7 j h⟩
          refine s_end ⟨hS, ?_⟩
          refine d_two 0 4 (by kernel_rfl) ?_ ?_
          · refine d_op 0 (some 43) (Go.Op.load 36 (Go.Operand.tmp 6)) (by kernel_rfl) fun ty pos af => ?_
            refine s_val hF (x_ldW wide36 m6 rfl rfl) (by decide) fun a hF => ?_
            refine s_end ⟨hS, ?_⟩
            refine d_one 4 (some 47) (Go.Op.call (Go.Call.mk (Go.Callee.value (Go.Operand.func 42)) #[(Go.Operand.tmp 45), (Go.Operand.tmp 46)] #[36, 3])) (by kernel_rfl) (by kernel_rfl) fun ty pos af => ?_
            refine s_callR (R := fun u w' => ∃ v', u = .agg [.int .i64 (setl (plusC (nfC (τ i)) (nfK (τ i)) (gt (nfK s) i)) (tidyK (plusK (nfK (τ i)) (gt (nfK s) i)))), v'].toArray ∧ Rd w' v' 1 (tidyK (plusK (nfK (τ i)) (gt (nfK s) i))).length (ints (tidyK (plusK (nfK (τ i)) (gt (nfK s) i)))) ∧ ∀ j, v'.ownBlock = some j → w38.heap.size ≤ j) [_, _] hF (enters_of Try.func42 (by kernel_rfl) rfl) rfl (by decide) (plus42 (nfC (τ i)) (nfK (τ i)) _ (gt (nfK s) i) w38 (nfC_nn _) (nfC_le _) (by omega) (by omega) (by have := nfK_len _ hti.2; omega) (nfK_lo _) (nfK_hi _) hv7) ?_
            rintro _ w40 a ⟨v8, rfl, hv8, hy8⟩ B41 hF
            have sB41 := B41.size
            have hB := hB.trans (B41.mono hB.size)
            have hB1 := hB1.trans (B41.mono hB1.size)
            have m4 := m4.old B41
            have m6 := m6.old B41
            have hv6 := hv6.below B41
            have m9 := m9.old B41
            have hv7 := hv7.below B41
            have hS := hS.below B41
            rw [show gt (nfK s) i = (((gt (nfK s) i).toNat : Nat) : Int) by omega] at hv8 hF
            rw [plusK_is] at hv8 hF
            rw [plusC_is] at hF
            have hvq8 : ∀ j, v8.ownBlock = some j → 0 < (nfK (.succ (gt (nfK s) i).toNat (τ i))).length → j < w40.heap.size ∧ w38.heap.size ≤ j := fun j h h0 => ⟨hv8.lt h0 h, hy8 j h⟩
            refine s_end ⟨hS, ?_⟩
            refine d_one 5 (some 48) (Go.Op.call (Go.Call.mk (Go.Callee.value (Go.Operand.func 43)) #[(Go.Operand.tmp 43), (Go.Operand.tmp 47)] #[36, 36])) (by kernel_rfl) (by kernel_rfl) fun ty pos af => ?_
            refine s_callR (R := fun u w' => ∃ v', u = .agg [.int .i64 (setl (max (nfC (instT (nfC s) (nfK s) τ i)) (nfC (.succ (gt (nfK s) i).toNat (τ i)))) (tidyK (bothK (nfK (instT (nfC s) (nfK s) τ i)) (nfK (.succ (gt (nfK s) i).toNat (τ i)))))), v'].toArray ∧ Rd w' v' 1 (tidyK (bothK (nfK (instT (nfC s) (nfK s) τ i)) (nfK (.succ (gt (nfK s) i).toNat (τ i))))).length (ints (tidyK (bothK (nfK (instT (nfC s) (nfK s) τ i)) (nfK (.succ (gt (nfK s) i).toNat (τ i)))))) ∧ ∀ j, v'.ownBlock = some j → w40.heap.size ≤ j) [_, _] hF (enters_of Try.func43 (by kernel_rfl) rfl) rfl (by decide) (both43 (nfC (instT (nfC s) (nfK s) τ i)) (nfC (.succ (gt (nfK s) i).toNat (τ i))) (nfK (instT (nfC s) (nfK s) τ i)) (nfK (.succ (gt (nfK s) i).toNat (τ i))) _ _ w40 (nfC_nn _) (nfC_nn _) (by omega) (by have := nfK_succ_len (n := (gt (nfK s) i).toNat) hti.2.2.2; omega) (nfK_lo _) (nfK_lo _) hv6 hv8) ?_
            rintro _ w42 a ⟨v3, rfl, hv3, hy3⟩ B43 hF
            have sB43 := B43.size
            have hB := hB.trans (B43.mono hB.size)
            have hB1 := hB1.trans (B43.mono hB1.size)
            have m4 := m4.old B43
            have m6 := m6.old B43
            have hv6 := hv6.below B43
            have m9 := m9.old B43
            have hv8 := hv8.below B43
            have hS := hS.below B43
            rw [bothK_is] at hv3 hF
            rw [← nfC_mx] at hF
            rw [← hstep] at hv3 hF
            have h1v3 := hv3.one
            have hvq3 : ∀ j, v3.ownBlock = some j → 0 < (nfK (instT (nfC s) (nfK s) τ (i + 1))).length → j < w42.heap.size ∧ w40.heap.size ≤ j := fun j h h0 => ⟨hv3.lt h0 h, hy3 j h⟩
            have hl3 : (nfK (instT (nfC s) (nfK s) τ (i + 1))).length ≤ 1001 := by
              have e1 : (nfK (instT (nfC s) (nfK s) τ (i + 1))).length ≤ max (nfK (instT (nfC s) (nfK s) τ i)).length (nfK (.succ (gt (nfK s) i).toNat (τ i))).length := by
                rw [hstep, ← bothK_is]
                exact Nat.le_trans (trim_len _ _) (by simp [bothK])
              have e2 := nfK_succ_len (n := (gt (nfK s) i).toNat) hti.2.2.2
              omega
            refine s_end ⟨hS, ?_⟩
            refine d_one 6 none (Go.Op.store 36 (Go.Operand.tmp 6) (Go.Operand.tmp 48)) (by kernel_rfl) (by kernel_rfl) fun ty pos af => ?_
            refine s_putW hF rfl rfl (size_wide wide36) m6 rfl (one2 h1v3) fun w44 m6 o45 => ?_
            have so45 := o45.size
            have hB := hB.trans (o45.below (by omega))
            have hB1 := hB1.trans (o45.below (by omega))
            have m4 := m4.only o45 (by omega)
            have m9 := m9.only o45 (by omega)
            have hv3 := rd_onlyZ hv3 o45 (fun j h hp => by have := hvq3 j h hp; omega)
            have hS := hS.only o45 (by omega)
            refine s_end ⟨hS, ?_⟩
            refine d_end (by kernel_rfl) (hK24 _ _ ?_)
            refine hK13 _ _ ?_
            refine wp_region_lit ?_
            refine s_val hF (x_addn (i + 1) (by omega) (by omega) rfl rfl) (by decide) fun a hF => ?_
            refine s_val hF (x_move rfl) (by decide) fun a hF => ?_
            refine s_end (hK' _ _ (by omega) ⟨v3, m6, hv3, (fun j h => by have := hy3 j h; omega), hl3, hnb2, m4, hB, hB1, hF.sub _ rfl⟩)
          · refine d_op 4 (some 47) (Go.Op.call (Go.Call.mk (Go.Callee.value (Go.Operand.func 42)) #[(Go.Operand.tmp 45), (Go.Operand.tmp 46)] #[36, 3])) (by kernel_rfl) fun ty pos af => ?_
            refine s_callR (R := fun u w' => ∃ v', u = .agg [.int .i64 (setl (plusC (nfC (τ i)) (nfK (τ i)) (gt (nfK s) i)) (tidyK (plusK (nfK (τ i)) (gt (nfK s) i)))), v'].toArray ∧ Rd w' v' 1 (tidyK (plusK (nfK (τ i)) (gt (nfK s) i))).length (ints (tidyK (plusK (nfK (τ i)) (gt (nfK s) i)))) ∧ ∀ j, v'.ownBlock = some j → w38.heap.size ≤ j) [_, _] hF (enters_of Try.func42 (by kernel_rfl) rfl) rfl (by decide) (plus42 (nfC (τ i)) (nfK (τ i)) _ (gt (nfK s) i) w38 (nfC_nn _) (nfC_le _) (by omega) (by omega) (by have := nfK_len _ hti.2; omega) (nfK_lo _) (nfK_hi _) hv7) ?_
            rintro _ w46 a ⟨v8, rfl, hv8, hy8⟩ B47 hF
            have sB47 := B47.size
            have hB := hB.trans (B47.mono hB.size)
            have hB1 := hB1.trans (B47.mono hB1.size)
            have m4 := m4.old B47
            have m6 := m6.old B47
            have hv6 := hv6.below B47
            have m9 := m9.old B47
            have hv7 := hv7.below B47
            have hS := hS.below B47
            rw [show gt (nfK s) i = (((gt (nfK s) i).toNat : Nat) : Int) by omega] at hv8 hF
            rw [plusK_is] at hv8 hF
            rw [plusC_is] at hF
            have hvq8 : ∀ j, v8.ownBlock = some j → 0 < (nfK (.succ (gt (nfK s) i).toNat (τ i))).length → j < w46.heap.size ∧ w38.heap.size ≤ j := fun j h h0 => ⟨hv8.lt h0 h, hy8 j h⟩
            refine s_end ⟨hS, ?_⟩
            refine d_one 0 (some 43) (Go.Op.load 36 (Go.Operand.tmp 6)) (by kernel_rfl) (by kernel_rfl) fun ty pos af => ?_
            refine s_val hF (x_ldW wide36 m6 rfl rfl) (by decide) fun a hF => ?_
            refine s_end ⟨hS, ?_⟩
            refine d_one 5 (some 48) (Go.Op.call (Go.Call.mk (Go.Callee.value (Go.Operand.func 43)) #[(Go.Operand.tmp 43), (Go.Operand.tmp 47)] #[36, 36])) (by kernel_rfl) (by kernel_rfl) fun ty pos af => ?_
            refine s_callR (R := fun u w' => ∃ v', u = .agg [.int .i64 (setl (max (nfC (instT (nfC s) (nfK s) τ i)) (nfC (.succ (gt (nfK s) i).toNat (τ i)))) (tidyK (bothK (nfK (instT (nfC s) (nfK s) τ i)) (nfK (.succ (gt (nfK s) i).toNat (τ i)))))), v'].toArray ∧ Rd w' v' 1 (tidyK (bothK (nfK (instT (nfC s) (nfK s) τ i)) (nfK (.succ (gt (nfK s) i).toNat (τ i))))).length (ints (tidyK (bothK (nfK (instT (nfC s) (nfK s) τ i)) (nfK (.succ (gt (nfK s) i).toNat (τ i)))))) ∧ ∀ j, v'.ownBlock = some j → w46.heap.size ≤ j) [_, _] hF (enters_of Try.func43 (by kernel_rfl) rfl) rfl (by decide) (both43 (nfC (instT (nfC s) (nfK s) τ i)) (nfC (.succ (gt (nfK s) i).toNat (τ i))) (nfK (instT (nfC s) (nfK s) τ i)) (nfK (.succ (gt (nfK s) i).toNat (τ i))) _ _ w46 (nfC_nn _) (nfC_nn _) (by omega) (by have := nfK_succ_len (n := (gt (nfK s) i).toNat) hti.2.2.2; omega) (nfK_lo _) (nfK_lo _) hv6 hv8) ?_
            rintro _ w48 a ⟨v3, rfl, hv3, hy3⟩ B49 hF
            have sB49 := B49.size
            have hB := hB.trans (B49.mono hB.size)
            have hB1 := hB1.trans (B49.mono hB1.size)
            have m4 := m4.old B49
            have m6 := m6.old B49
            have hv6 := hv6.below B49
            have m9 := m9.old B49
            have hv8 := hv8.below B49
            have hS := hS.below B49
            rw [bothK_is] at hv3 hF
            rw [← nfC_mx] at hF
            rw [← hstep] at hv3 hF
            have h1v3 := hv3.one
            have hvq3 : ∀ j, v3.ownBlock = some j → 0 < (nfK (instT (nfC s) (nfK s) τ (i + 1))).length → j < w48.heap.size ∧ w46.heap.size ≤ j := fun j h h0 => ⟨hv3.lt h0 h, hy3 j h⟩
            have hl3 : (nfK (instT (nfC s) (nfK s) τ (i + 1))).length ≤ 1001 := by
              have e1 : (nfK (instT (nfC s) (nfK s) τ (i + 1))).length ≤ max (nfK (instT (nfC s) (nfK s) τ i)).length (nfK (.succ (gt (nfK s) i).toNat (τ i))).length := by
                rw [hstep, ← bothK_is]
                exact Nat.le_trans (trim_len _ _) (by simp [bothK])
              have e2 := nfK_succ_len (n := (gt (nfK s) i).toNat) hti.2.2.2
              omega
            refine s_end ⟨hS, ?_⟩
            refine d_one 6 none (Go.Op.store 36 (Go.Operand.tmp 6) (Go.Operand.tmp 48)) (by kernel_rfl) (by kernel_rfl) fun ty pos af => ?_
            refine s_putW hF rfl rfl (size_wide wide36) m6 rfl (one2 h1v3) fun w50 m6 o51 => ?_
            have so51 := o51.size
            have hB := hB.trans (o51.below (by omega))
            have hB1 := hB1.trans (o51.below (by omega))
            have m4 := m4.only o51 (by omega)
            have m9 := m9.only o51 (by omega)
            have hv3 := rd_onlyZ hv3 o51 (fun j h hp => by have := hvq3 j h hp; omega)
            have hS := hS.only o51 (by omega)
            refine s_end ⟨hS, ?_⟩
            refine d_end (by kernel_rfl) (hK24 _ _ ?_)
            refine hK13 _ _ ?_
            refine wp_region_lit ?_
            refine s_val hF (x_addn (i + 1) (by omega) (by omega) rfl rfl) (by decide) fun a hF => ?_
            refine s_val hF (x_move rfl) (by decide) fun a hF => ?_
            refine s_end (hK' _ _ (by omega) ⟨v3, m6, hv3, (fun j h => by have := hy3 j h; omega), hl3, hnb2, m4, hB, hB1, hF.sub _ rfl⟩)
      · have hstep : instT (nfC s) (nfK s) τ (i + 1) = .mx (instT (nfC s) (nfK s) τ i) (.succ (gt (nfK s) i).toNat (τ i)) := by rw [instT, if_neg hc8]
        obtain ⟨b8, off8, c8, y, hve, hy, hrowv⟩ := rd_row3 hV (i := i) hg
        cases hve
        have hyl := hl i y ly hy hli
        have hi1 : i < (nfK s).length := hc23
        have h1y := hyl.one1
        have hnl : ¬ sndL ly := of_decide_eq_false hd2
        refine wp_rs fun K25 hK25 => ?_
        refine s_val hF (x_move rfl) (by decide) fun a hF => ?_
        refine s_val hF (x_lss (b := false) (decide_eq_false (by omega)) rfl rfl) (by decide) fun a hF => ?_
        refine s_end (hK25 _ _ ?_)
        refine wp_if hF rfl ?_
        refine wp_skip (hK15 _ _ ?_)
        refine wp_rs fun K26 hK26 => ?_
        refine s_val hF (x_move rfl) (by decide) fun a hF => ?_
        refine s_val hF (x_build (vs := [(0, _), (1, _)]) rfl (b24_01 _ _ _)) (by decide) fun a hF => ?_
        refine s_alloc hF (by decide) zero24 fun w52 b9 a eb9 m9 B53 zb9 hF => ?_
        have sB53 := B53.size
        have hB := hB.trans (B53.mono hB.size)
        have hB1 := hB1.trans (B53.mono hB1.size)
        have m4 := m4.old B53
        have m6 := m6.old B53
        have hv6 := hv6.below B53
        refine s_putW hF rfl rfl (size_wide wide24) m9 rfl (one3 rfl) fun w54 m9 o55 => ?_
        have so55 := o55.size
        have hB := hB.trans (o55.below (by omega))
        have hB1 := hB1.trans (o55.below (by omega))
        have m4 := m4.only o55 (by omega)
        have m6 := m6.only o55 (by omega)
        have hv6 := rd_onlyZ hv6 o55 (fun j h hp => by have := hvq6 j h hp; omega)
        refine s_end (hK26 _ _ ?_)
        refine wp_seq_k fun K27 hK27 => ?_
        refine wp_rs fun K28 hK28 => ?_
        refine s_val hF (x_move rfl) (by decide) fun a hF => ?_
        refine s_val hF (x_move rfl) (by decide) fun a hF => ?_
        refine s_val hF (x_len Try.underlying22 rfl) (by decide) fun a hF => ?_
        refine s_val hF (x_lss (b := true) (decide_eq_true (by omega)) rfl rfl) (by decide) fun a hF => ?_
        refine s_end (hK28 _ _ ?_)
        refine wp_if hF rfl ?_
        refine wp_region_lit ?_
        refine s_val hF (x_move rfl) (by decide) fun a hF => ?_
        refine s_val hF (x_move rfl) (by decide) fun a hF => ?_
        refine s_val hF (x_ixa rfl rfl (m_ixsK i Try.underlying22 el22.size rfl (by omega))) (by decide) fun a hF => ?_
        refine s_val hF (x_ldA wide24 (hrowv _ hB) rfl rfl) (by decide) fun a hF => ?_
        refine s_putW hF rfl rfl (size_wide wide24) m9 rfl (one_lc h1y) fun w56 m9 o57 => ?_
        have so57 := o57.size
        have hB := hB.trans (o57.below (by omega))
        have hB1 := hB1.trans (o57.below (by omega))
        have m4 := m4.only o57 (by omega)
        have m6 := m6.only o57 (by omega)
        have hv6 := rd_onlyZ hv6 o57 (fun j h hp => by have := hvq6 j h hp; omega)
        refine s_end (hK27 _ _ ?_)
        refine wp_seq_k fun K29 hK29 => ?_
        refine wp_rs fun K30 hK30 => ?_
        refine s_val hF (x_ldW wide24 m9 rfl rfl) (by decide) fun a hF => ?_
        refine s_callB [_] hF (enters_of Try.func17 (by kernel_rfl) rfl) rfl (by decide) (rSound17 y ly w56 (hyl.old hB)) fun w58 a B59 hF => ?_
        have sB59 := B59.size
        have hB := hB.trans (B59.mono hB.size)
        have hB1 := hB1.trans (B59.mono hB1.size)
        have m4 := m4.old B59
        have m6 := m6.old B59
        have hv6 := hv6.below B59
        have m9 := m9.old B59
        rw [hd2] at hF
        refine s_val hF (x_not rfl) (by decide) fun a hF => ?_
        refine s_end (hK30 _ _ ?_)
        refine wp_if hF rfl ?_
        refine wp_rs fun K31 hK31 => ?_
        refine s_val hF (x_build (vs := []) rfl (b24_ _)) (by decide) fun a hF => ?_
        refine s_putW hF rfl rfl (size_wide wide24) m4 rfl (one3 rfl) fun w60 m4 o61 => ?_
        have so61 := o61.size
        have hB := hB.trans (o61.below (by omega))
        have m6 := m6.only o61 (by omega)
        have hv6 := rd_onlyZ hv6 o61 (fun j h hp => by have := hvq6 j h hp; omega)
        have m9 := m9.only o61 (by omega)
        refine s_end (hK31 _ _ ?_)
        refine wp_ret (then_ret (inb_ret (then_ret (then_ret (inb_ret (then_ret (res_cell hF rfl rfl m4 wide24 ⟨_, rfl, ⟨(0, 0, .slice none 0 0), rfl, fun _ => rfl, fun s' hs' _ => ?_⟩, hB⟩)))))))
        obtain rfl := RS.inj hs hs'
        exact ⟨fun _ => rfl, fun h => absurd ⟨i, hi1, hc8, _, hli, hnl⟩ h⟩
      · have hstep : instT (nfC s) (nfK s) τ (i + 1) = .mx (instT (nfC s) (nfK s) τ i) (.succ (gt (nfK s) i).toNat (τ i)) := by rw [instT, if_neg hc8]
        obtain ⟨b8, off8, c8, y, hve, hy, hrowv⟩ := rd_row3 hV (i := i) hg
        cases hve
        have hyl := hl i y ly hy hli
        have hi1 : i < (nfK s).length := hc23
        have h1y := hyl.one1
        have hnl : sndL ly := of_decide_eq_true hd2
        have hti := hτ i y ly hy hli hnl
        have hnb2 : ∀ j, j < i + 1 → ¬ bad ls (nfK s) j := by
          intro j hj hb
          rcases Nat.lt_or_ge j i with h | h
          · exact hnb j h hb
          · have hji : j = i := by omega
            subst hji
            exact by obtain ⟨_, _, l9, h9, h10⟩ := hb; rw [hli] at h9; cases h9; exact h10 hnl
        refine wp_rs fun K32 hK32 => ?_
        refine s_val hF (x_move rfl) (by decide) fun a hF => ?_
        refine s_val hF (x_lss (b := false) (decide_eq_false (by omega)) rfl rfl) (by decide) fun a hF => ?_
        refine s_end (hK32 _ _ ?_)
        refine wp_if hF rfl ?_
        refine wp_skip (hK15 _ _ ?_)
        refine wp_rs fun K33 hK33 => ?_
        refine s_val hF (x_move rfl) (by decide) fun a hF => ?_
        refine s_val hF (x_build (vs := [(0, _), (1, _)]) rfl (b24_01 _ _ _)) (by decide) fun a hF => ?_
        refine s_alloc hF (by decide) zero24 fun w62 b9 a eb9 m9 B63 zb9 hF => ?_
        have sB63 := B63.size
        have hB := hB.trans (B63.mono hB.size)
        have hB1 := hB1.trans (B63.mono hB1.size)
        have m4 := m4.old B63
        have m6 := m6.old B63
        have hv6 := hv6.below B63
        refine s_putW hF rfl rfl (size_wide wide24) m9 rfl (one3 rfl) fun w64 m9 o65 => ?_
        have so65 := o65.size
        have hB := hB.trans (o65.below (by omega))
        have hB1 := hB1.trans (o65.below (by omega))
        have m4 := m4.only o65 (by omega)
        have m6 := m6.only o65 (by omega)
        have hv6 := rd_onlyZ hv6 o65 (fun j h hp => by have := hvq6 j h hp; omega)
        refine s_end (hK33 _ _ ?_)
        refine wp_seq_k fun K34 hK34 => ?_
        refine wp_rs fun K35 hK35 => ?_
        refine s_val hF (x_move rfl) (by decide) fun a hF => ?_
        refine s_val hF (x_move rfl) (by decide) fun a hF => ?_
        refine s_val hF (x_len Try.underlying22 rfl) (by decide) fun a hF => ?_
        refine s_val hF (x_lss (b := true) (decide_eq_true (by omega)) rfl rfl) (by decide) fun a hF => ?_
        refine s_end (hK35 _ _ ?_)
        refine wp_if hF rfl ?_
        refine wp_region_lit ?_
        refine s_val hF (x_move rfl) (by decide) fun a hF => ?_
        refine s_val hF (x_move rfl) (by decide) fun a hF => ?_
        refine s_val hF (x_ixa rfl rfl (m_ixsK i Try.underlying22 el22.size rfl (by omega))) (by decide) fun a hF => ?_
        refine s_val hF (x_ldA wide24 (hrowv _ hB) rfl rfl) (by decide) fun a hF => ?_
        refine s_putW hF rfl rfl (size_wide wide24) m9 rfl (one_lc h1y) fun w66 m9 o67 => ?_
        have so67 := o67.size
        have hB := hB.trans (o67.below (by omega))
        have hB1 := hB1.trans (o67.below (by omega))
        have m4 := m4.only o67 (by omega)
        have m6 := m6.only o67 (by omega)
        have hv6 := rd_onlyZ hv6 o67 (fun j h hp => by have := hvq6 j h hp; omega)
        refine s_end (hK34 _ _ ?_)
        refine wp_seq_k fun K36 hK36 => ?_
        refine wp_rs fun K37 hK37 => ?_
        refine s_val hF (x_ldW wide24 m9 rfl rfl) (by decide) fun a hF => ?_
        refine s_callB [_] hF (enters_of Try.func17 (by kernel_rfl) rfl) rfl (by decide) (rSound17 y ly w66 (hyl.old hB)) fun w68 a B69 hF => ?_
        have sB69 := B69.size
        have hB := hB.trans (B69.mono hB.size)
        have hB1 := hB1.trans (B69.mono hB1.size)
        have m4 := m4.old B69
        have m6 := m6.old B69
        have hv6 := hv6.below B69
        have m9 := m9.old B69
        rw [hd2] at hF
        refine s_val hF (x_not rfl) (by decide) fun a hF => ?_
        refine s_end (hK37 _ _ ?_)
        refine wp_if hF rfl ?_
        refine wp_skip (hK36 _ _ ?_)
        refine dk2_one (b6) (b6) (ops := regOps Try.f28 14) (N := 7) (by kernel_rfl) wide_orders (by kernel_rfl) fun w70 hw70 B71 hS K38 hK38 => ?_
        have zw70 : w70.heap.size = w68.heap.size := by rw [hw70]
        have sB71 := B71.size
        have hB := hB.trans (B71.mono hB.size)
        have hB1 := hB1.trans (B71.mono hB1.size)
        have m4 := m4.old B71
        have m6 := m6.old B71
        have hv6 := hv6.below B71
        have m9 := m9.old B71
        have m4_d := m4
        have m6_d := m6
        have hv6_d := hv6
        have m9_d := m9
        have hB_d := hB
        have hB1_d := hB1
        refine d_val 1 44 (op := (Go.Op.load 24 (Go.Operand.tmp 9))) hF hS (by kernel_rfl) (fun W hW => x_ldW wide24 (m9_d.k2 hW (by omega)) rfl rfl) (by kernel_rfl) (by decide) fun a hF => ?_
        refine d_val 3 46 (op := (Go.Op.move (Go.Operand.tmp 8))) hF hS (by kernel_rfl) (fun W hW => x_move rfl) (by kernel_rfl) (by decide) fun a hF => ?_
        refine d_two 0 2 (by kernel_rfl) ?_ ?_
        · refine d_op 0 (some 43) (Go.Op.load 36 (Go.Operand.tmp 6)) (by kernel_rfl) fun ty pos af => ?_
          refine s_val hF (x_ldW wide36 m6 rfl rfl) (by decide) fun a hF => ?_
          refine s_end ⟨hS, ?_⟩
          refine d_one 2 (some 45) (Go.Op.call (Go.Call.mk (Go.Callee.value (Go.Operand.func 20)) #[(Go.Operand.tmp 44)] #[24])) (by kernel_rfl) (by kernel_rfl) fun ty pos af => ?_
          refine s_callR (R := fun u w' => ∃ v', u = .agg [.int .i64 (nfC (τ i)), v'].toArray ∧ Rd w' v' 1 (nfK (τ i)).length (ints (nfK (τ i))) ∧ ∀ j, v'.ownBlock = some j → w70.heap.size ≤ j) [_] hF (enters_of Try.func20 (by kernel_rfl) rfl) rfl (by decide) (rNorm20 (τ i) y w70 (RS.below hB hti.1) hti.2.2.2) ?_
          rintro _ w72 a ⟨v7, rfl, hv7, hy7⟩ B73 hF
          have sB73 := B73.size
          have hB := hB.trans (B73.mono hB.size)
          have hB1 := hB1.trans (B73.mono hB1.size)
          have m4 := m4.old B73
          have m6 := m6.old B73
          have hv6 := hv6.below B73
          have m9 := m9.old B73
          have hS := hS.below B73
          have hvq7 : ∀ j, v7.ownBlock = some j → 0 < (nfK (τ i)).length → j < w72.heap.size ∧ w70.heap.size ≤ j := fun j h h0 => ⟨hv7.lt h0 h, hy7 j h⟩
          refine s_end ⟨hS, ?_⟩
          refine d_one 4 (some 47) (Go.Op.call (Go.Call.mk (Go.Callee.value (Go.Operand.func 42)) #[(Go.Operand.tmp 45), (Go.Operand.tmp 46)] #[36, 3])) (by kernel_rfl) (by kernel_rfl) fun ty pos af => ?_
          refine s_callR (R := fun u w' => ∃ v', u = .agg [.int .i64 (setl (plusC (nfC (τ i)) (nfK (τ i)) (gt (nfK s) i)) (tidyK (plusK (nfK (τ i)) (gt (nfK s) i)))), v'].toArray ∧ Rd w' v' 1 (tidyK (plusK (nfK (τ i)) (gt (nfK s) i))).length (ints (tidyK (plusK (nfK (τ i)) (gt (nfK s) i)))) ∧ ∀ j, v'.ownBlock = some j → w72.heap.size ≤ j) [_, _] hF (enters_of Try.func42 (by kernel_rfl) rfl) rfl (by decide) (plus42 (nfC (τ i)) (nfK (τ i)) _ (gt (nfK s) i) w72 (nfC_nn _) (nfC_le _) (by omega) (by omega) (by have := nfK_len _ hti.2; omega) (nfK_lo _) (nfK_hi _) hv7) ?_
          rintro _ w74 a ⟨v8, rfl, hv8, hy8⟩ B75 hF
          have sB75 := B75.size
          have hB := hB.trans (B75.mono hB.size)
          have hB1 := hB1.trans (B75.mono hB1.size)
          have m4 := m4.old B75
          have m6 := m6.old B75
          have hv6 := hv6.below B75
          have m9 := m9.old B75
          have hv7 := hv7.below B75
          have hS := hS.below B75
          rw [show gt (nfK s) i = (((gt (nfK s) i).toNat : Nat) : Int) by omega] at hv8 hF
          rw [plusK_is] at hv8 hF
          rw [plusC_is] at hF
          have hvq8 : ∀ j, v8.ownBlock = some j → 0 < (nfK (.succ (gt (nfK s) i).toNat (τ i))).length → j < w74.heap.size ∧ w72.heap.size ≤ j := fun j h h0 => ⟨hv8.lt h0 h, hy8 j h⟩
          refine s_end ⟨hS, ?_⟩
          refine d_one 5 (some 48) (Go.Op.call (Go.Call.mk (Go.Callee.value (Go.Operand.func 43)) #[(Go.Operand.tmp 43), (Go.Operand.tmp 47)] #[36, 36])) (by kernel_rfl) (by kernel_rfl) fun ty pos af => ?_
          refine s_callR (R := fun u w' => ∃ v', u = .agg [.int .i64 (setl (max (nfC (instT (nfC s) (nfK s) τ i)) (nfC (.succ (gt (nfK s) i).toNat (τ i)))) (tidyK (bothK (nfK (instT (nfC s) (nfK s) τ i)) (nfK (.succ (gt (nfK s) i).toNat (τ i)))))), v'].toArray ∧ Rd w' v' 1 (tidyK (bothK (nfK (instT (nfC s) (nfK s) τ i)) (nfK (.succ (gt (nfK s) i).toNat (τ i))))).length (ints (tidyK (bothK (nfK (instT (nfC s) (nfK s) τ i)) (nfK (.succ (gt (nfK s) i).toNat (τ i)))))) ∧ ∀ j, v'.ownBlock = some j → w74.heap.size ≤ j) [_, _] hF (enters_of Try.func43 (by kernel_rfl) rfl) rfl (by decide) (both43 (nfC (instT (nfC s) (nfK s) τ i)) (nfC (.succ (gt (nfK s) i).toNat (τ i))) (nfK (instT (nfC s) (nfK s) τ i)) (nfK (.succ (gt (nfK s) i).toNat (τ i))) _ _ w74 (nfC_nn _) (nfC_nn _) (by omega) (by have := nfK_succ_len (n := (gt (nfK s) i).toNat) hti.2.2.2; omega) (nfK_lo _) (nfK_lo _) hv6 hv8) ?_
          rintro _ w76 a ⟨v3, rfl, hv3, hy3⟩ B77 hF
          have sB77 := B77.size
          have hB := hB.trans (B77.mono hB.size)
          have hB1 := hB1.trans (B77.mono hB1.size)
          have m4 := m4.old B77
          have m6 := m6.old B77
          have hv6 := hv6.below B77
          have m9 := m9.old B77
          have hv8 := hv8.below B77
          have hS := hS.below B77
          rw [bothK_is] at hv3 hF
          rw [← nfC_mx] at hF
          rw [← hstep] at hv3 hF
          have h1v3 := hv3.one
          have hvq3 : ∀ j, v3.ownBlock = some j → 0 < (nfK (instT (nfC s) (nfK s) τ (i + 1))).length → j < w76.heap.size ∧ w74.heap.size ≤ j := fun j h h0 => ⟨hv3.lt h0 h, hy3 j h⟩
          have hl3 : (nfK (instT (nfC s) (nfK s) τ (i + 1))).length ≤ 1001 := by
            have e1 : (nfK (instT (nfC s) (nfK s) τ (i + 1))).length ≤ max (nfK (instT (nfC s) (nfK s) τ i)).length (nfK (.succ (gt (nfK s) i).toNat (τ i))).length := by
              rw [hstep, ← bothK_is]
              exact Nat.le_trans (trim_len _ _) (by simp [bothK])
            have e2 := nfK_succ_len (n := (gt (nfK s) i).toNat) hti.2.2.2
            omega
          refine s_end ⟨hS, ?_⟩
          refine d_one 6 none (Go.Op.store 36 (Go.Operand.tmp 6) (Go.Operand.tmp 48)) (by kernel_rfl) (by kernel_rfl) fun ty pos af => ?_
          refine s_putW hF rfl rfl (size_wide wide36) m6 rfl (one2 h1v3) fun w78 m6 o79 => ?_
          have so79 := o79.size
          have hB := hB.trans (o79.below (by omega))
          have hB1 := hB1.trans (o79.below (by omega))
          have m4 := m4.only o79 (by omega)
          have m9 := m9.only o79 (by omega)
          have hv3 := rd_onlyZ hv3 o79 (fun j h hp => by have := hvq3 j h hp; omega)
          have hS := hS.only o79 (by omega)
          refine s_end ⟨hS, ?_⟩
          refine d_end (by kernel_rfl) (hK38 _ _ ?_)
          refine hK13 _ _ ?_
          refine wp_region_lit ?_
          refine s_val hF (x_addn (i + 1) (by omega) (by omega) rfl rfl) (by decide) fun a hF => ?_
          refine s_val hF (x_move rfl) (by decide) fun a hF => ?_
          refine s_end (hK' _ _ (by omega) ⟨v3, m6, hv3, (fun j h => by have := hy3 j h; omega), hl3, hnb2, m4, hB, hB1, hF.sub _ rfl⟩)
        · refine d_op 2 (some 45) (Go.Op.call (Go.Call.mk (Go.Callee.value (Go.Operand.func 20)) #[(Go.Operand.tmp 44)] #[24])) (by kernel_rfl) fun ty pos af => ?_
          refine s_callR (R := fun u w' => ∃ v', u = .agg [.int .i64 (nfC (τ i)), v'].toArray ∧ Rd w' v' 1 (nfK (τ i)).length (ints (nfK (τ i))) ∧ ∀ j, v'.ownBlock = some j → w70.heap.size ≤ j) [_] hF (enters_of Try.func20 (by kernel_rfl) rfl) rfl (by decide) (rNorm20 (τ i) y w70 (RS.below hB hti.1) hti.2.2.2) ?_
          rintro _ w80 a ⟨v7, rfl, hv7, hy7⟩ B81 hF
          have sB81 := B81.size
          have hB := hB.trans (B81.mono hB.size)
          have hB1 := hB1.trans (B81.mono hB1.size)
          have m4 := m4.old B81
          have m6 := m6.old B81
          have hv6 := hv6.below B81
          have m9 := m9.old B81
          have hS := hS.below B81
          have hvq7 : ∀ j, v7.ownBlock = some j → 0 < (nfK (τ i)).length → j < w80.heap.size ∧ w70.heap.size ≤ j := fun j h h0 => ⟨hv7.lt h0 h, hy7 j h⟩
          refine s_end ⟨hS, ?_⟩
          refine d_two 0 4 (by kernel_rfl) ?_ ?_
          · refine d_op 0 (some 43) (Go.Op.load 36 (Go.Operand.tmp 6)) (by kernel_rfl) fun ty pos af => ?_
            refine s_val hF (x_ldW wide36 m6 rfl rfl) (by decide) fun a hF => ?_
            refine s_end ⟨hS, ?_⟩
            refine d_one 4 (some 47) (Go.Op.call (Go.Call.mk (Go.Callee.value (Go.Operand.func 42)) #[(Go.Operand.tmp 45), (Go.Operand.tmp 46)] #[36, 3])) (by kernel_rfl) (by kernel_rfl) fun ty pos af => ?_
            refine s_callR (R := fun u w' => ∃ v', u = .agg [.int .i64 (setl (plusC (nfC (τ i)) (nfK (τ i)) (gt (nfK s) i)) (tidyK (plusK (nfK (τ i)) (gt (nfK s) i)))), v'].toArray ∧ Rd w' v' 1 (tidyK (plusK (nfK (τ i)) (gt (nfK s) i))).length (ints (tidyK (plusK (nfK (τ i)) (gt (nfK s) i)))) ∧ ∀ j, v'.ownBlock = some j → w80.heap.size ≤ j) [_, _] hF (enters_of Try.func42 (by kernel_rfl) rfl) rfl (by decide) (plus42 (nfC (τ i)) (nfK (τ i)) _ (gt (nfK s) i) w80 (nfC_nn _) (nfC_le _) (by omega) (by omega) (by have := nfK_len _ hti.2; omega) (nfK_lo _) (nfK_hi _) hv7) ?_
            rintro _ w82 a ⟨v8, rfl, hv8, hy8⟩ B83 hF
            have sB83 := B83.size
            have hB := hB.trans (B83.mono hB.size)
            have hB1 := hB1.trans (B83.mono hB1.size)
            have m4 := m4.old B83
            have m6 := m6.old B83
            have hv6 := hv6.below B83
            have m9 := m9.old B83
            have hv7 := hv7.below B83
            have hS := hS.below B83
            rw [show gt (nfK s) i = (((gt (nfK s) i).toNat : Nat) : Int) by omega] at hv8 hF
            rw [plusK_is] at hv8 hF
            rw [plusC_is] at hF
            have hvq8 : ∀ j, v8.ownBlock = some j → 0 < (nfK (.succ (gt (nfK s) i).toNat (τ i))).length → j < w82.heap.size ∧ w80.heap.size ≤ j := fun j h h0 => ⟨hv8.lt h0 h, hy8 j h⟩
            refine s_end ⟨hS, ?_⟩
            refine d_one 5 (some 48) (Go.Op.call (Go.Call.mk (Go.Callee.value (Go.Operand.func 43)) #[(Go.Operand.tmp 43), (Go.Operand.tmp 47)] #[36, 36])) (by kernel_rfl) (by kernel_rfl) fun ty pos af => ?_
            refine s_callR (R := fun u w' => ∃ v', u = .agg [.int .i64 (setl (max (nfC (instT (nfC s) (nfK s) τ i)) (nfC (.succ (gt (nfK s) i).toNat (τ i)))) (tidyK (bothK (nfK (instT (nfC s) (nfK s) τ i)) (nfK (.succ (gt (nfK s) i).toNat (τ i)))))), v'].toArray ∧ Rd w' v' 1 (tidyK (bothK (nfK (instT (nfC s) (nfK s) τ i)) (nfK (.succ (gt (nfK s) i).toNat (τ i))))).length (ints (tidyK (bothK (nfK (instT (nfC s) (nfK s) τ i)) (nfK (.succ (gt (nfK s) i).toNat (τ i)))))) ∧ ∀ j, v'.ownBlock = some j → w82.heap.size ≤ j) [_, _] hF (enters_of Try.func43 (by kernel_rfl) rfl) rfl (by decide) (both43 (nfC (instT (nfC s) (nfK s) τ i)) (nfC (.succ (gt (nfK s) i).toNat (τ i))) (nfK (instT (nfC s) (nfK s) τ i)) (nfK (.succ (gt (nfK s) i).toNat (τ i))) _ _ w82 (nfC_nn _) (nfC_nn _) (by omega) (by have := nfK_succ_len (n := (gt (nfK s) i).toNat) hti.2.2.2; omega) (nfK_lo _) (nfK_lo _) hv6 hv8) ?_
            rintro _ w84 a ⟨v3, rfl, hv3, hy3⟩ B85 hF
            have sB85 := B85.size
            have hB := hB.trans (B85.mono hB.size)
            have hB1 := hB1.trans (B85.mono hB1.size)
            have m4 := m4.old B85
            have m6 := m6.old B85
            have hv6 := hv6.below B85
            have m9 := m9.old B85
            have hv8 := hv8.below B85
            have hS := hS.below B85
            rw [bothK_is] at hv3 hF
            rw [← nfC_mx] at hF
            rw [← hstep] at hv3 hF
            have h1v3 := hv3.one
            have hvq3 : ∀ j, v3.ownBlock = some j → 0 < (nfK (instT (nfC s) (nfK s) τ (i + 1))).length → j < w84.heap.size ∧ w82.heap.size ≤ j := fun j h h0 => ⟨hv3.lt h0 h, hy3 j h⟩
            have hl3 : (nfK (instT (nfC s) (nfK s) τ (i + 1))).length ≤ 1001 := by
              have e1 : (nfK (instT (nfC s) (nfK s) τ (i + 1))).length ≤ max (nfK (instT (nfC s) (nfK s) τ i)).length (nfK (.succ (gt (nfK s) i).toNat (τ i))).length := by
                rw [hstep, ← bothK_is]
                exact Nat.le_trans (trim_len _ _) (by simp [bothK])
              have e2 := nfK_succ_len (n := (gt (nfK s) i).toNat) hti.2.2.2
              omega
            refine s_end ⟨hS, ?_⟩
            refine d_one 6 none (Go.Op.store 36 (Go.Operand.tmp 6) (Go.Operand.tmp 48)) (by kernel_rfl) (by kernel_rfl) fun ty pos af => ?_
            refine s_putW hF rfl rfl (size_wide wide36) m6 rfl (one2 h1v3) fun w86 m6 o87 => ?_
            have so87 := o87.size
            have hB := hB.trans (o87.below (by omega))
            have hB1 := hB1.trans (o87.below (by omega))
            have m4 := m4.only o87 (by omega)
            have m9 := m9.only o87 (by omega)
            have hv3 := rd_onlyZ hv3 o87 (fun j h hp => by have := hvq3 j h hp; omega)
            have hS := hS.only o87 (by omega)
            refine s_end ⟨hS, ?_⟩
            refine d_end (by kernel_rfl) (hK38 _ _ ?_)
            refine hK13 _ _ ?_
            refine wp_region_lit ?_
            refine s_val hF (x_addn (i + 1) (by omega) (by omega) rfl rfl) (by decide) fun a hF => ?_
            refine s_val hF (x_move rfl) (by decide) fun a hF => ?_
            refine s_end (hK' _ _ (by omega) ⟨v3, m6, hv3, (fun j h => by have := hy3 j h; omega), hl3, hnb2, m4, hB, hB1, hF.sub _ rfl⟩)
          · refine d_op 4 (some 47) (Go.Op.call (Go.Call.mk (Go.Callee.value (Go.Operand.func 42)) #[(Go.Operand.tmp 45), (Go.Operand.tmp 46)] #[36, 3])) (by kernel_rfl) fun ty pos af => ?_
            refine s_callR (R := fun u w' => ∃ v', u = .agg [.int .i64 (setl (plusC (nfC (τ i)) (nfK (τ i)) (gt (nfK s) i)) (tidyK (plusK (nfK (τ i)) (gt (nfK s) i)))), v'].toArray ∧ Rd w' v' 1 (tidyK (plusK (nfK (τ i)) (gt (nfK s) i))).length (ints (tidyK (plusK (nfK (τ i)) (gt (nfK s) i)))) ∧ ∀ j, v'.ownBlock = some j → w80.heap.size ≤ j) [_, _] hF (enters_of Try.func42 (by kernel_rfl) rfl) rfl (by decide) (plus42 (nfC (τ i)) (nfK (τ i)) _ (gt (nfK s) i) w80 (nfC_nn _) (nfC_le _) (by omega) (by omega) (by have := nfK_len _ hti.2; omega) (nfK_lo _) (nfK_hi _) hv7) ?_
            rintro _ w88 a ⟨v8, rfl, hv8, hy8⟩ B89 hF
            have sB89 := B89.size
            have hB := hB.trans (B89.mono hB.size)
            have hB1 := hB1.trans (B89.mono hB1.size)
            have m4 := m4.old B89
            have m6 := m6.old B89
            have hv6 := hv6.below B89
            have m9 := m9.old B89
            have hv7 := hv7.below B89
            have hS := hS.below B89
            rw [show gt (nfK s) i = (((gt (nfK s) i).toNat : Nat) : Int) by omega] at hv8 hF
            rw [plusK_is] at hv8 hF
            rw [plusC_is] at hF
            have hvq8 : ∀ j, v8.ownBlock = some j → 0 < (nfK (.succ (gt (nfK s) i).toNat (τ i))).length → j < w88.heap.size ∧ w80.heap.size ≤ j := fun j h h0 => ⟨hv8.lt h0 h, hy8 j h⟩
            refine s_end ⟨hS, ?_⟩
            refine d_one 0 (some 43) (Go.Op.load 36 (Go.Operand.tmp 6)) (by kernel_rfl) (by kernel_rfl) fun ty pos af => ?_
            refine s_val hF (x_ldW wide36 m6 rfl rfl) (by decide) fun a hF => ?_
            refine s_end ⟨hS, ?_⟩
            refine d_one 5 (some 48) (Go.Op.call (Go.Call.mk (Go.Callee.value (Go.Operand.func 43)) #[(Go.Operand.tmp 43), (Go.Operand.tmp 47)] #[36, 36])) (by kernel_rfl) (by kernel_rfl) fun ty pos af => ?_
            refine s_callR (R := fun u w' => ∃ v', u = .agg [.int .i64 (setl (max (nfC (instT (nfC s) (nfK s) τ i)) (nfC (.succ (gt (nfK s) i).toNat (τ i)))) (tidyK (bothK (nfK (instT (nfC s) (nfK s) τ i)) (nfK (.succ (gt (nfK s) i).toNat (τ i)))))), v'].toArray ∧ Rd w' v' 1 (tidyK (bothK (nfK (instT (nfC s) (nfK s) τ i)) (nfK (.succ (gt (nfK s) i).toNat (τ i))))).length (ints (tidyK (bothK (nfK (instT (nfC s) (nfK s) τ i)) (nfK (.succ (gt (nfK s) i).toNat (τ i)))))) ∧ ∀ j, v'.ownBlock = some j → w88.heap.size ≤ j) [_, _] hF (enters_of Try.func43 (by kernel_rfl) rfl) rfl (by decide) (both43 (nfC (instT (nfC s) (nfK s) τ i)) (nfC (.succ (gt (nfK s) i).toNat (τ i))) (nfK (instT (nfC s) (nfK s) τ i)) (nfK (.succ (gt (nfK s) i).toNat (τ i))) _ _ w88 (nfC_nn _) (nfC_nn _) (by omega) (by have := nfK_succ_len (n := (gt (nfK s) i).toNat) hti.2.2.2; omega) (nfK_lo _) (nfK_lo _) hv6 hv8) ?_
            rintro _ w90 a ⟨v3, rfl, hv3, hy3⟩ B91 hF
            have sB91 := B91.size
            have hB := hB.trans (B91.mono hB.size)
            have hB1 := hB1.trans (B91.mono hB1.size)
            have m4 := m4.old B91
            have m6 := m6.old B91
            have hv6 := hv6.below B91
            have m9 := m9.old B91
            have hv8 := hv8.below B91
            have hS := hS.below B91
            rw [bothK_is] at hv3 hF
            rw [← nfC_mx] at hF
            rw [← hstep] at hv3 hF
            have h1v3 := hv3.one
            have hvq3 : ∀ j, v3.ownBlock = some j → 0 < (nfK (instT (nfC s) (nfK s) τ (i + 1))).length → j < w90.heap.size ∧ w88.heap.size ≤ j := fun j h h0 => ⟨hv3.lt h0 h, hy3 j h⟩
            have hl3 : (nfK (instT (nfC s) (nfK s) τ (i + 1))).length ≤ 1001 := by
              have e1 : (nfK (instT (nfC s) (nfK s) τ (i + 1))).length ≤ max (nfK (instT (nfC s) (nfK s) τ i)).length (nfK (.succ (gt (nfK s) i).toNat (τ i))).length := by
                rw [hstep, ← bothK_is]
                exact Nat.le_trans (trim_len _ _) (by simp [bothK])
              have e2 := nfK_succ_len (n := (gt (nfK s) i).toNat) hti.2.2.2
              omega
            refine s_end ⟨hS, ?_⟩
            refine d_one 6 none (Go.Op.store 36 (Go.Operand.tmp 6) (Go.Operand.tmp 48)) (by kernel_rfl) (by kernel_rfl) fun ty pos af => ?_
            refine s_putW hF rfl rfl (size_wide wide36) m6 rfl (one2 h1v3) fun w92 m6 o93 => ?_
            have so93 := o93.size
            have hB := hB.trans (o93.below (by omega))
            have hB1 := hB1.trans (o93.below (by omega))
            have m4 := m4.only o93 (by omega)
            have m9 := m9.only o93 (by omega)
            have hv3 := rd_onlyZ hv3 o93 (fun j h hp => by have := hvq3 j h hp; omega)
            have hS := hS.only o93 (by omega)
            refine s_end ⟨hS, ?_⟩
            refine d_end (by kernel_rfl) (hK38 _ _ ?_)
            refine hK13 _ _ ?_
            refine wp_region_lit ?_
            refine s_val hF (x_addn (i + 1) (by omega) (by omega) rfl rfl) (by decide) fun a hF => ?_
            refine s_val hF (x_move rfl) (by decide) fun a hF => ?_
            refine s_end (hK' _ _ (by omega) ⟨v3, m6, hv3, (fun j h => by have := hy3 j h; omega), hl3, hnb2, m4, hB, hB1, hF.sub _ rfl⟩)
    · obtain rfl : i = (nfK s).length := by omega
      refine wp_exit (hK9 _ _ ?_)
      refine wp_rs fun K39 hK39 => ?_
      refine s_val hF (x_ldW wide36 m6 rfl rfl) (by decide) fun a hF => ?_
      refine s_callR (R := fun u w' => ∃ z, u = lv z ∧ RSn w' (fun k => w.heap.size ≤ k) (levF (nfC (instT (nfC s) (nfK s) τ (nfK s).length)) (nfK (instT (nfC s) (nfK s) τ (nfK s).length))) z) [_] hF (enters_of Try.func22 (by kernel_rfl) rfl) rfl (by decide) (rLevel22 _ _ v6 w (nfC_nn _) hLl (nfK_lo _) (nfK_tm _) hv6) ?_
      rintro _ w94 a ⟨z, rfl, hz⟩ B95 hF
      have sB95 := B95.size
      have hB := hB.trans (B95.mono hB.size)
      have hB1 := hB1.trans (B95.mono hB1.size)
      have m4 := m4.old B95
      have m6 := m6.old B95
      have hv6 := hv6.below B95
      have h1z := hz.rs.one1
      refine s_putW hF rfl rfl (size_wide wide24) m4 rfl (one_lc h1z) fun w96 m4 o97 => ?_
      have so97 := o97.size
      have hB := hB.trans (o97.below (by omega))
      have m6 := m6.only o97 (by omega)
      have hz := hz.only o97 (fun k (hk : w.heap.size ≤ k) => by omega)
      refine s_end (hK39 _ _ ?_)
      refine wp_ret (res_cell hF rfl rfl m4 wide24 ⟨_, rfl, ⟨z, rfl, fun h => absurd hn h, fun s' hs' _ => ?_⟩, hB⟩)
      obtain rfl := RS.inj hs hs'
      exact ⟨fun ⟨j, hj⟩ => absurd hj (hnb j hj.1), fun _ => hz.rs⟩
end Go.Proofs.Ytnnkggfhhkhnmaa
