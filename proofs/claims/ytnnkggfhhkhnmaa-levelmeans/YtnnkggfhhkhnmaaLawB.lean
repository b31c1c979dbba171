/- Sound, Equal, Leq, Reduce, Value at levels of the four kinds; LevelGoesOn. -/
import Derived.Test.YtnnkggfhhkhnmaaPureM
namespace Go.Proofs.Ytnnkggfhhkhnmaa
open Go.RowKit Go.Shelf
set_option linter.unusedVariables false
set_option linter.unusedSimpArgs false

theorem sndS {s : SL} {x : C3} {w0 : World} (hs : RS w0 s x) : Calls Try.prog 17 #[lv x] w0 fun e w' => ∃ v, e = .returned v ∧ (∃ b, v = .bool b ∧ (b = true ↔ s.good)) ∧ Below w0.heap.size w0 w' := by
  obtain ⟨l, hl, hg⟩ := hs.snd
  refine (rSound17 x l w0 hl).mono fun e w' ⟨h1, h2⟩ => ⟨_, h1, ⟨_, rfl, ?_⟩, h2⟩
  rw [decide_eq_true_iff]
  exact hg
theorem eqS {s t : SL} {x y : C3} {w0 : World} (hs : RS w0 s x) (ht : RS w0 t y) (g1 : s.good) (g2 : t.good) : Calls Try.prog 23 #[lv x, lv y] w0 fun e w' => e = .returned (.bool (decide (eqF s t))) ∧ Below w0.heap.size w0 w' := by
  obtain ⟨la, hla, _⟩ := hs.snd
  obtain ⟨lb, hlb, _⟩ := ht.snd
  refine (Equal23 x y la lb w0 hla hlb).mono fun e w' ⟨v, h1, ⟨b, h2, h3⟩, h4⟩ => ⟨?_, h4⟩
  rw [h1, h2, h3.2 s t hs ht g1 g2]
theorem leqS {s t : SL} {x y : C3} {w0 : World} (hs : RS w0 s x) (ht : RS w0 t y) (g1 : s.good) (g2 : t.good) : Calls Try.prog 25 #[lv x, lv y] w0 fun e w' => e = .returned (.bool (decide (leS s t))) ∧ Below w0.heap.size w0 w' := by
  obtain ⟨la, hla, _⟩ := hs.snd
  obtain ⟨lb, hlb, _⟩ := ht.snd
  refine (Leq25 x y la lb w0 hla hlb).mono fun e w' ⟨v, h1, ⟨b, h2, h3⟩, h4⟩ => ⟨?_, h4⟩
  rw [h1, h2, h3.2 s t hs ht g1 g2]
theorem redS {s : SL} {x : C3} {w0 : World} (hs : RS w0 s x) (g1 : s.good) : Calls Try.prog 19 #[lv x] w0 fun e w' => ∃ v, e = .returned v ∧ (∃ z, v = lv z ∧ RS w' (levF (nfC s) (nfK s)) z) ∧ Below w0.heap.size w0 w' := by
  obtain ⟨la, hla, _⟩ := hs.snd
  exact (Reduce19 x la w0 hla).mono fun e w' ⟨v, h1, ⟨z, h2, _, h3⟩, h4⟩ => ⟨v, h1, ⟨z, h2, h3 s hs g1⟩, h4⟩
theorem valS {s : SL} {x : C3} {w0 : World} {vs : List Int} {vv : Value} (hs : RS w0 s x) (g1 : s.good) (hV : Rd w0 vv 1 vs.length (ints vs)) (hvl : vs.length ≤ 9223372036854775807) : Calls Try.prog 29 #[lv x, vv] w0 fun e w' => e = .returned (.int .i64 (val s (rho vs))) ∧ Below w0.heap.size w0 w' := by
  obtain ⟨la, hla, _⟩ := hs.snd
  refine (Value29 vs vv hvl x la w0 hla hV).mono fun e w' ⟨v, h1, ⟨z, h2, _, h3⟩, h4⟩ => ⟨?_, h4⟩
  rw [h1, h2, h3 s hs g1]
theorem x_neB {P : Program} {n : Nat} {l : List (Nat × Value)} {w : World} {t t' : TypeId} {x y : Operand} {p q b : Bool} (ht : P.underlying t = some .bool) (h : (p != q) = b) (hx : ov l x = some (.bool p)) (hy : ov l y = some (.bool q)) : Runs P n l w (.binOp .neq t x y t') (.bool b) :=
  x_bin hx hy fun W => ⟨by simp [eqGuard], by
    subst h
    have h := fun d => run_equalIn_bool' (P := P) W d t p q ht
    have h := h 9999
    simp only [binOp, Op.equal, Op.maxDepth]
    simp [h]
    cases p <;> cases q <;> rfl⟩
theorem dec_of {p : Prop} [Decidable p] {b : Bool} (h : decide p = b) : (b = true ↔ p) := by subst h; simp
theorem good_bd {s : SL} (h : s.good) : s.size ≤ 10000 ∧ s.dep ≤ 10000 := ⟨by have := h.1; omega, by have := h.2.1; omega⟩

set_option maxRecDepth 100000 in
set_option maxHeartbeats 1600000 in
theorem levelGoesOn_walk (x y z : C3) (la lb lc' : Lv) (w0 : World) (hLa : RL w0 x la) (hLb : RL w0 y lb) (hLc : RL w0 z lc') : Calls Try.prog 9 #[lv x, lv y, lv z] w0 fun e w' => e = .returned (.bool true) ∧ Below w0.heap.size w0 w' := by
  have hB := Below.refl w0.heap.size w0
  have sB := hB.size
  refine calls_fs 95 [(0, lv x), (1, lv y), (2, lv z)] Try.func9 rfl rfl rfl rfl rfl fun a hF => ?_
  refine wp_rs fun K1 hK1 => ?_
  refine s_box (lc x) hF (by decide) rfl rfl fun w2 b3 a eb3 m3 B3 zb3 hF => ?_
  have sB3 := B3.size
  have hB := hB.trans (B3.mono hB.size)
  refine s_box (lc y) hF (by decide) rfl rfl fun w4 b4 a eb4 m4 B5 zb4 hF => ?_
  have sB5 := B5.size
  have hB := hB.trans (B5.mono hB.size)
  have m3 := m3.old B5
  refine s_box (lc z) hF (by decide) rfl rfl fun w6 b5 a eb5 m5 B7 zb5 hF => ?_
  have sB7 := B7.size
  have hB := hB.trans (B7.mono hB.size)
  have m3 := m3.old B7
  have m4 := m4.old B7
  refine s_val hF (x_assign rfl) (by decide) fun a hF => ?_
  refine s_end (hK1 _ _ ?_)
  refine wp_seq_k fun K2 hK2 => ?_
  rcases (show (decide (sndL la) = false) ∨ (decide (sndL la) = true ∧ decide (sndL lb) = false) ∨ (decide (sndL la) = true ∧ decide (sndL lb) = true ∧ decide (sndL lc') = false) ∨ (decide (sndL la) = true ∧ decide (sndL lb) = true ∧ decide (sndL lc') = true) by cases decide (sndL la) <;> cases decide (sndL lb) <;> cases decide (sndL lc') <;> simp) with hd1 | ⟨hd1, hd2⟩ | ⟨hd1, hd2, hd3⟩ | ⟨hd1, hd2, hd3⟩
  · skip
    refine wp_rs fun K4 hK4 => ?_
    refine s_val hF (x_ldW wide24 m3 rfl rfl) (by decide) fun a hF => ?_
    refine s_callB [_] hF (enters_of Try.func17 (by kernel_rfl) rfl) rfl (by decide) (rSound17 x la w6 (hLa.old hB)) fun w8 a B9 hF => ?_
    have sB9 := B9.size
    have hB := hB.trans (B9.mono hB.size)
    have m3 := m3.old B9
    have m4 := m4.old B9
    have m5 := m5.old B9
    rw [hd1] at hF
    refine s_val hF (x_not rfl) (by decide) fun a hF => ?_
    refine s_val hF (x_move rfl) (by decide) fun a hF => ?_
    refine s_grdn 11 hF rfl rfl (by decide) fun a hF => ?_
    refine s_grdn 11 hF rfl rfl (by decide) fun a hF => ?_
    refine s_grdn 11 hF rfl rfl (by decide) fun a hF => ?_
    refine s_val hF (x_pick (b := true) rfl rfl) (by decide) fun a hF => ?_
    refine s_val hF (x_move rfl) (by decide) fun a hF => ?_
    refine s_grdn 16 hF rfl rfl (by decide) fun a hF => ?_
    refine s_grdn 16 hF rfl rfl (by decide) fun a hF => ?_
    refine s_grdn 16 hF rfl rfl (by decide) fun a hF => ?_
    refine s_val hF (x_pick (b := true) rfl rfl) (by decide) fun a hF => ?_
    refine s_end (hK4 _ _ ?_)
    refine wp_if hF rfl ?_
    refine wp_rs fun K5 hK5 => ?_
    refine s_callB [] hF (enters_of Try.func15 (by kernel_rfl) rfl) rfl (by decide) (awake15 w8) fun w10 a B11 hF => ?_
    have sB11 := B11.size
    have hB := hB.trans (B11.mono hB.size)
    have m3 := m3.old B11
    have m4 := m4.old B11
    have m5 := m5.old B11
    refine s_val hF (x_assign rfl) (by decide) fun a hF => ?_
    refine s_end (hK5 _ _ ?_)
    refine wp_ret (then_ret (res_slot hF rfl rfl ⟨rfl, hB⟩))
  · skip
    refine wp_rs fun K6 hK6 => ?_
    refine s_val hF (x_ldW wide24 m3 rfl rfl) (by decide) fun a hF => ?_
    refine s_callB [_] hF (enters_of Try.func17 (by kernel_rfl) rfl) rfl (by decide) (rSound17 x la w6 (hLa.old hB)) fun w12 a B13 hF => ?_
    have sB13 := B13.size
    have hB := hB.trans (B13.mono hB.size)
    have m3 := m3.old B13
    have m4 := m4.old B13
    have m5 := m5.old B13
    rw [hd1] at hF
    refine s_val hF (x_not rfl) (by decide) fun a hF => ?_
    refine s_val hF (x_move rfl) (by decide) fun a hF => ?_
    refine s_grd 11 hF rfl rfl rfl ?_
    refine s_val hF (x_ldW wide24 m4 rfl rfl) (by decide) fun a hF => ?_
    refine s_grd 11 hF rfl rfl rfl ?_
    refine s_callB [_] hF (enters_of Try.func17 (by kernel_rfl) rfl) rfl (by decide) (rSound17 y lb w12 (hLb.old hB)) fun w14 a B15 hF => ?_
    have sB15 := B15.size
    have hB := hB.trans (B15.mono hB.size)
    have m3 := m3.old B15
    have m4 := m4.old B15
    have m5 := m5.old B15
    rw [hd2] at hF
    refine s_grd 11 hF rfl rfl rfl ?_
    refine s_val hF (x_not rfl) (by decide) fun a hF => ?_
    refine s_val hF (x_pick (b := false) rfl rfl) (by decide) fun a hF => ?_
    refine s_val hF (x_move rfl) (by decide) fun a hF => ?_
    refine s_grdn 16 hF rfl rfl (by decide) fun a hF => ?_
    refine s_grdn 16 hF rfl rfl (by decide) fun a hF => ?_
    refine s_grdn 16 hF rfl rfl (by decide) fun a hF => ?_
    refine s_val hF (x_pick (b := true) rfl rfl) (by decide) fun a hF => ?_
    refine s_end (hK6 _ _ ?_)
    refine wp_if hF rfl ?_
    refine wp_rs fun K7 hK7 => ?_
    refine s_callB [] hF (enters_of Try.func15 (by kernel_rfl) rfl) rfl (by decide) (awake15 w14) fun w16 a B17 hF => ?_
    have sB17 := B17.size
    have hB := hB.trans (B17.mono hB.size)
    have m3 := m3.old B17
    have m4 := m4.old B17
    have m5 := m5.old B17
    refine s_val hF (x_assign rfl) (by decide) fun a hF => ?_
    refine s_end (hK7 _ _ ?_)
    refine wp_ret (then_ret (res_slot hF rfl rfl ⟨rfl, hB⟩))
  · skip
    refine wp_rs fun K8 hK8 => ?_
    refine s_val hF (x_ldW wide24 m3 rfl rfl) (by decide) fun a hF => ?_
    refine s_callB [_] hF (enters_of Try.func17 (by kernel_rfl) rfl) rfl (by decide) (rSound17 x la w6 (hLa.old hB)) fun w18 a B19 hF => ?_
    have sB19 := B19.size
    have hB := hB.trans (B19.mono hB.size)
    have m3 := m3.old B19
    have m4 := m4.old B19
    have m5 := m5.old B19
    rw [hd1] at hF
    refine s_val hF (x_not rfl) (by decide) fun a hF => ?_
    refine s_val hF (x_move rfl) (by decide) fun a hF => ?_
    refine s_grd 11 hF rfl rfl rfl ?_
    refine s_val hF (x_ldW wide24 m4 rfl rfl) (by decide) fun a hF => ?_
    refine s_grd 11 hF rfl rfl rfl ?_
    refine s_callB [_] hF (enters_of Try.func17 (by kernel_rfl) rfl) rfl (by decide) (rSound17 y lb w18 (hLb.old hB)) fun w20 a B21 hF => ?_
    have sB21 := B21.size
    have hB := hB.trans (B21.mono hB.size)
    have m3 := m3.old B21
    have m4 := m4.old B21
    have m5 := m5.old B21
    rw [hd2] at hF
    refine s_grd 11 hF rfl rfl rfl ?_
    refine s_val hF (x_not rfl) (by decide) fun a hF => ?_
    refine s_val hF (x_pick (b := false) rfl rfl) (by decide) fun a hF => ?_
    refine s_val hF (x_move rfl) (by decide) fun a hF => ?_
    refine s_grd 16 hF rfl rfl rfl ?_
    refine s_val hF (x_ldW wide24 m5 rfl rfl) (by decide) fun a hF => ?_
    refine s_grd 16 hF rfl rfl rfl ?_
    refine s_callB [_] hF (enters_of Try.func17 (by kernel_rfl) rfl) rfl (by decide) (rSound17 z lc' w20 (hLc.old hB)) fun w22 a B23 hF => ?_
    have sB23 := B23.size
    have hB := hB.trans (B23.mono hB.size)
    have m3 := m3.old B23
    have m4 := m4.old B23
    have m5 := m5.old B23
    rw [hd3] at hF
    refine s_grd 16 hF rfl rfl rfl ?_
    refine s_val hF (x_not rfl) (by decide) fun a hF => ?_
    refine s_val hF (x_pick (b := false) rfl rfl) (by decide) fun a hF => ?_
    refine s_end (hK8 _ _ ?_)
    refine wp_if hF rfl ?_
    refine wp_rs fun K9 hK9 => ?_
    refine s_callB [] hF (enters_of Try.func15 (by kernel_rfl) rfl) rfl (by decide) (awake15 w22) fun w24 a B25 hF => ?_
    have sB25 := B25.size
    have hB := hB.trans (B25.mono hB.size)
    have m3 := m3.old B25
    have m4 := m4.old B25
    have m5 := m5.old B25
    refine s_val hF (x_assign rfl) (by decide) fun a hF => ?_
    refine s_end (hK9 _ _ ?_)
    refine wp_ret (then_ret (res_slot hF rfl rfl ⟨rfl, hB⟩))
  · have hsn1 : sndL la := of_decide_eq_true hd1
    obtain ⟨p, hp, gp⟩ := sound_sl hLa hsn1
    have hsn2 : sndL lb := of_decide_eq_true hd2
    obtain ⟨q, hq, gq⟩ := sound_sl hLb hsn2
    have hsn3 : sndL lc' := of_decide_eq_true hd3
    obtain ⟨r, hr, gr⟩ := sound_sl hLc hsn3
    have bp := good_bd gp
    have bq := good_bd gq
    refine wp_rs fun K10 hK10 => ?_
    refine s_val hF (x_ldW wide24 m3 rfl rfl) (by decide) fun a hF => ?_
    refine s_callB [_] hF (enters_of Try.func17 (by kernel_rfl) rfl) rfl (by decide) (rSound17 x la w6 (hLa.old hB)) fun w26 a B27 hF => ?_
    have sB27 := B27.size
    have hB := hB.trans (B27.mono hB.size)
    have m3 := m3.old B27
    have m4 := m4.old B27
    have m5 := m5.old B27
    rw [hd1] at hF
    refine s_val hF (x_not rfl) (by decide) fun a hF => ?_
    refine s_val hF (x_move rfl) (by decide) fun a hF => ?_
    refine s_grd 11 hF rfl rfl rfl ?_
    refine s_val hF (x_ldW wide24 m4 rfl rfl) (by decide) fun a hF => ?_
    refine s_grd 11 hF rfl rfl rfl ?_
    refine s_callB [_] hF (enters_of Try.func17 (by kernel_rfl) rfl) rfl (by decide) (rSound17 y lb w26 (hLb.old hB)) fun w28 a B29 hF => ?_
    have sB29 := B29.size
    have hB := hB.trans (B29.mono hB.size)
    have m3 := m3.old B29
    have m4 := m4.old B29
    have m5 := m5.old B29
    rw [hd2] at hF
    refine s_grd 11 hF rfl rfl rfl ?_
    refine s_val hF (x_not rfl) (by decide) fun a hF => ?_
    refine s_val hF (x_pick (b := false) rfl rfl) (by decide) fun a hF => ?_
    refine s_val hF (x_move rfl) (by decide) fun a hF => ?_
    refine s_grd 16 hF rfl rfl rfl ?_
    refine s_val hF (x_ldW wide24 m5 rfl rfl) (by decide) fun a hF => ?_
    refine s_grd 16 hF rfl rfl rfl ?_
    refine s_callB [_] hF (enters_of Try.func17 (by kernel_rfl) rfl) rfl (by decide) (rSound17 z lc' w28 (hLc.old hB)) fun w30 a B31 hF => ?_
    have sB31 := B31.size
    have hB := hB.trans (B31.mono hB.size)
    have m3 := m3.old B31
    have m4 := m4.old B31
    have m5 := m5.old B31
    rw [hd3] at hF
    refine s_grd 16 hF rfl rfl rfl ?_
    refine s_val hF (x_not rfl) (by decide) fun a hF => ?_
    refine s_val hF (x_pick (b := false) rfl rfl) (by decide) fun a hF => ?_
    refine s_end (hK10 _ _ ?_)
    refine wp_if hF rfl ?_
    refine wp_skip (hK2 _ _ ?_)
    refine wp_rs fun K11 hK11 => ?_
    refine s_val hF (x_ldW wide24 m3 rfl rfl) (by decide) fun a hF => ?_
    refine s_val hF (x_ldW wide24 m4 rfl rfl) (by decide) fun a hF => ?_
    refine s_callR (R := fun u w' => ∃ z, u = lv z ∧ RSn w' (fun k => w30.heap.size ≤ k) (.mx p q) z) [_, _] hF (enters_of Try.func32 (by kernel_rfl) rfl) rfl (by decide) (Max32 p q x y w30 (RS.below hB hp) (RS.below hB hq) bp.1 bp.2 bq.1 bq.2) ?_
    rintro _ w32 a ⟨m, rfl, hm0⟩ B33 hF
    have sB33 := B33.size
    have hB := hB.trans (B33.mono hB.size)
    have m3 := m3.old B33
    have m4 := m4.old B33
    have m5 := m5.old B33
    have hm := hm0.rs
    have h1m := hm.one1
    have hBm := Below.refl w32.heap.size w32
    refine s_alloc hF (by decide) zero24 fun w34 b7 a eb7 m7 B35 zb7 hF => ?_
    have sB35 := B35.size
    have hB := hB.trans (B35.mono hB.size)
    have hBm := hBm.trans (B35.mono hBm.size)
    have m3 := m3.old B35
    have m4 := m4.old B35
    have m5 := m5.old B35
    refine s_putW hF rfl rfl (size_wide wide24) m7 rfl (one_lc h1m) fun w36 m7 o37 => ?_
    have so37 := o37.size
    have hB := hB.trans (o37.below (by omega))
    have hBm := hBm.trans (o37.below (by omega))
    have m3 := m3.only o37 (by omega)
    have m4 := m4.only o37 (by omega)
    have m5 := m5.only o37 (by omega)
    refine s_end (hK11 _ _ ?_)
    refine wp_seq_k fun K12 hK12 => ?_
    refine wp_rs fun K13 hK13 => ?_
    refine s_val hF (x_ldW wide24 m7 rfl rfl) (by decide) fun a hF => ?_
    refine s_callR (R := fun v w' => ∃ b, v = .bool b ∧ (b = true ↔ (SL.mx p q).good)) [_] hF (enters_of Try.func17 (by kernel_rfl) rfl) rfl (by decide) (sndS (RS.below hBm hm)) ?_
    rintro _ w38 a ⟨bm, rfl, hbm⟩ B39 hF
    have sB39 := B39.size
    have hB := hB.trans (B39.mono hB.size)
    have hBm := hBm.trans (B39.mono hBm.size)
    have m3 := m3.old B39
    have m4 := m4.old B39
    have m5 := m5.old B39
    have m7 := m7.old B39
    refine s_val hF (x_not rfl) (by decide) fun a hF => ?_
    refine s_end (hK13 _ _ ?_)
    refine wp_ifb hF rfl (fun hc27 => ?_) (fun hc27 => ?_)
    · refine wp_rs fun K14 hK14 => ?_
      refine s_callB [] hF (enters_of Try.func15 (by kernel_rfl) rfl) rfl (by decide) (awake15 w38) fun w40 a B41 hF => ?_
      have sB41 := B41.size
      have hB := hB.trans (B41.mono hB.size)
      have hBm := hBm.trans (B41.mono hBm.size)
      have m3 := m3.old B41
      have m4 := m4.old B41
      have m5 := m5.old B41
      have m7 := m7.old B41
      refine s_val hF (x_assign rfl) (by decide) fun a hF => ?_
      refine s_end (hK14 _ _ ?_)
      refine wp_ret (then_ret (res_slot hF rfl rfl ⟨rfl, hB⟩))
    · have gm : (SL.mx p q).good := hbm.1 (by simpa using hc27)
      refine wp_skip (hK12 _ _ ?_)
      refine wp_seq_k fun K15 hK15 => ?_
      have key15 : ∀ (a : Act) (w : World), Below w0.heap.size w0 w → Blk w b3 24 (lc x) → Blk w b4 24 (lc y) → Fs 95 a [(3, .pointer (some ⟨b3, 0, none⟩)), (4, .pointer (some ⟨b4, 0, none⟩))] → K15 a w := by
        intro a w hB m3 m4 hF
        have sB := hB.size
        have hm3 := m3.lt
        have hm4 := m4.lt
        refine hK15 _ _ ?_
        refine wp_seq_k fun K16 hK16 => ?_
        rcases (show (decide (leS p q) = true ∧ decide (leS q p) = true) ∨ (decide (leS p q) = true ∧ decide (leS q p) = false) ∨ (decide (leS p q) = false ∧ decide (leS q p) = true) ∨ (decide (leS p q) = false ∧ decide (leS q p) = false) by first | (cases decide (leS p q) <;> cases decide (leS q p) <;> simp; done) | (revert t1; cases decide (leS p q) <;> cases decide (leS q p) <;> simp)) with ⟨h1, h4⟩ | ⟨h1, h4⟩ | ⟨h1, h4⟩ | ⟨h1, h4⟩
        · have h5 : decide (eqF p q) = true := decide_eq_true (eq_iff.2 ⟨of_decide_eq_true h1, of_decide_eq_true h4⟩)
          refine dk2_seq (w.heap.size) (w.heap.size) (ops := regOps Try.f9 8) (N := 12) (by kernel_rfl) wide_orders (by kernel_rfl) fun w42 hw42 B43 hS K18 hK18 => ?_
          have zw42 : w42.heap.size = w.heap.size := by rw [hw42]
          have sB43 := B43.size
          have hB := hB.trans (B43.mono hB.size)
          have m3 := m3.old B43
          have m4 := m4.old B43
          have m3_d := m3
          have m4_d := m4
          have hB_d := hB
          refine d_val 0 71 (op := (Go.Op.load 24 (Go.Operand.tmp 3))) hF hS (by kernel_rfl) (fun W hW => x_ldW wide24 (m3_d.k2 hW (by omega)) rfl rfl) (by kernel_rfl) (by decide) fun a hF => ?_
          refine d_val 1 72 (op := (Go.Op.load 24 (Go.Operand.tmp 4))) hF hS (by kernel_rfl) (fun W hW => x_ldW wide24 (m4_d.k2 hW (by omega)) rfl rfl) (by kernel_rfl) (by decide) fun a hF => ?_
          refine d_val 3 74 (op := (Go.Op.load 24 (Go.Operand.tmp 3))) hF hS (by kernel_rfl) (fun W hW => x_ldW wide24 (m3_d.k2 hW (by omega)) rfl rfl) (by kernel_rfl) (by decide) fun a hF => ?_
          refine d_val 4 75 (op := (Go.Op.load 24 (Go.Operand.tmp 4))) hF hS (by kernel_rfl) (fun W hW => x_ldW wide24 (m4_d.k2 hW (by omega)) rfl rfl) (by kernel_rfl) (by decide) fun a hF => ?_
          refine d_one 2 (some 73) (Go.Op.call (Go.Call.mk (Go.Callee.value (Go.Operand.func 23)) #[(Go.Operand.tmp 71), (Go.Operand.tmp 72)] #[24, 24])) (by kernel_rfl) (by kernel_rfl) fun ty pos af => ?_
          refine s_callB [_, _] hF (enters_of Try.func23 (by kernel_rfl) rfl) rfl (by decide) (eqS (RS.below hB hp) (RS.below hB hq) gp gq) fun w44 a B45 hF => ?_
          have sB45 := B45.size
          have hB := hB.trans (B45.mono hB.size)
          have m3 := m3.old B45
          have m4 := m4.old B45
          have hS := hS.below B45
          rw [h5] at hF
          refine s_end ⟨hS, ?_⟩
          refine d_one 5 (some 76) (Go.Op.call (Go.Call.mk (Go.Callee.value (Go.Operand.func 25)) #[(Go.Operand.tmp 74), (Go.Operand.tmp 75)] #[24, 24])) (by kernel_rfl) (by kernel_rfl) fun ty pos af => ?_
          refine s_callB [_, _] hF (enters_of Try.func25 (by kernel_rfl) rfl) rfl (by decide) (leqS (RS.below hB hp) (RS.below hB hq) gp gq) fun w46 a B47 hF => ?_
          have sB47 := B47.size
          have hB := hB.trans (B47.mono hB.size)
          have m3 := m3.old B47
          have m4 := m4.old B47
          have hS := hS.below B47
          rw [h1] at hF
          refine s_end ⟨hS, ?_⟩
          refine d_val 6 77 (op := (Go.Op.move (Go.Operand.tmp 76))) hF hS (by kernel_rfl) (fun W hW => x_move rfl) (by kernel_rfl) (by decide) fun a hF => ?_
          refine d_valg 7 78 77 (j := 6) (want := true) (op := (Go.Op.load 24 (Go.Operand.tmp 4))) hF hS (by kernel_rfl) (by kernel_rfl) rfl (fun W hW => x_ldW wide24 (m4_d.k2 hW (by omega)) rfl rfl) (by kernel_rfl) (by decide) fun a hF => ?_
          refine d_valg 8 79 77 (j := 6) (want := true) (op := (Go.Op.load 24 (Go.Operand.tmp 3))) hF hS (by kernel_rfl) (by kernel_rfl) rfl (fun W hW => x_ldW wide24 (m3_d.k2 hW (by omega)) rfl rfl) (by kernel_rfl) (by decide) fun a hF => ?_
          refine d_oneg 9 77 (some 80) (Go.Op.call (Go.Call.mk (Go.Callee.value (Go.Operand.func 25)) #[(Go.Operand.tmp 78), (Go.Operand.tmp 79)] #[24, 24])) (j := 6) (want := true) hF (by kernel_rfl) (by kernel_rfl) (by kernel_rfl) rfl fun ty pos af => ?_
          refine s_callB [_, _] hF (enters_of Try.func25 (by kernel_rfl) rfl) rfl (by decide) (leqS (RS.below hB hq) (RS.below hB hp) gq gp) fun w48 a B49 hF => ?_
          have sB49 := B49.size
          have hB := hB.trans (B49.mono hB.size)
          have m3 := m3.old B49
          have m4 := m4.old B49
          have hS := hS.below B49
          rw [h4] at hF
          refine s_end ⟨hS, ?_⟩
          refine d_val 10 81 (op := (Go.Op.pick (Go.Operand.tmp 77) (Go.Operand.tmp 80) (Go.Operand.const (Go.Value.bool false)))) hF hS (by kernel_rfl) (fun W hW => x_pick (b := true) rfl rfl) (by kernel_rfl) (by decide) fun a hF => ?_
          refine d_val 11 82 (op := (Go.Op.binOp Go.BinOp.neq 4 (Go.Operand.tmp 73) (Go.Operand.tmp 81) 4)) hF hS (by kernel_rfl) (fun W hW => x_neB (b := false) Try.underlying4 rfl rfl rfl) (by kernel_rfl) (by decide) fun a hF => ?_
          refine d_end (by kernel_rfl) (hK18 _ _ ?_)
          refine wp_if hF rfl ?_
          refine wp_skip (hK16 _ _ ?_)
          refine dk2_seq (w48.heap.size) (w48.heap.size) (ops := regOps Try.f9 10) (N := 13) (by kernel_rfl) wide_orders (by kernel_rfl) fun w50 hw50 B51 hS K19 hK19 => ?_
          have zw50 : w50.heap.size = w48.heap.size := by rw [hw50]
          have sB51 := B51.size
          have hB := hB.trans (B51.mono hB.size)
          have m3 := m3.old B51
          have m4 := m4.old B51
          have m3_d := m3
          have m4_d := m4
          have hB_d := hB
          refine d_val 0 83 (op := (Go.Op.load 24 (Go.Operand.tmp 3))) hF hS (by kernel_rfl) (fun W hW => x_ldW wide24 (m3_d.k2 hW (by omega)) rfl rfl) (by kernel_rfl) (by decide) fun a hF => ?_
          refine d_val 1 84 (op := (Go.Op.load 24 (Go.Operand.tmp 4))) hF hS (by kernel_rfl) (fun W hW => x_ldW wide24 (m4_d.k2 hW (by omega)) rfl rfl) (by kernel_rfl) (by decide) fun a hF => ?_
          refine d_val 3 86 (op := (Go.Op.load 24 (Go.Operand.tmp 3))) hF hS (by kernel_rfl) (fun W hW => x_ldW wide24 (m3_d.k2 hW (by omega)) rfl rfl) (by kernel_rfl) (by decide) fun a hF => ?_
          refine d_val 5 88 (op := (Go.Op.load 24 (Go.Operand.tmp 4))) hF hS (by kernel_rfl) (fun W hW => x_ldW wide24 (m4_d.k2 hW (by omega)) rfl rfl) (by kernel_rfl) (by decide) fun a hF => ?_
          refine d_one 2 (some 85) (Go.Op.call (Go.Call.mk (Go.Callee.value (Go.Operand.func 23)) #[(Go.Operand.tmp 83), (Go.Operand.tmp 84)] #[24, 24])) (by kernel_rfl) (by kernel_rfl) fun ty pos af => ?_
          refine s_callB [_, _] hF (enters_of Try.func23 (by kernel_rfl) rfl) rfl (by decide) (eqS (RS.below hB hp) (RS.below hB hq) gp gq) fun w52 a B53 hF => ?_
          have sB53 := B53.size
          have hB := hB.trans (B53.mono hB.size)
          have m3 := m3.old B53
          have m4 := m4.old B53
          have hS := hS.below B53
          rw [h5] at hF
          refine s_end ⟨hS, ?_⟩
          refine d_one 4 (some 87) (Go.Op.call (Go.Call.mk (Go.Callee.value (Go.Operand.func 19)) #[(Go.Operand.tmp 86)] #[24])) (by kernel_rfl) (by kernel_rfl) fun ty pos af => ?_
          refine s_callR (R := fun v w' => ∃ z, v = lv z ∧ RS w' (levF (nfC p) (nfK p)) z) [_] hF (enters_of Try.func19 (by kernel_rfl) rfl) rfl (by decide) (redS (RS.below hB hp) gp) ?_
          rintro _ w54 a ⟨z1, rfl, hz1⟩ B55 hF
          have sB55 := B55.size
          have hB := hB.trans (B55.mono hB.size)
          have m3 := m3.old B55
          have m4 := m4.old B55
          have hS := hS.below B55
          refine s_end ⟨hS, ?_⟩
          refine d_one 6 (some 89) (Go.Op.call (Go.Call.mk (Go.Callee.value (Go.Operand.func 19)) #[(Go.Operand.tmp 88)] #[24])) (by kernel_rfl) (by kernel_rfl) fun ty pos af => ?_
          refine s_callR (R := fun v w' => ∃ z, v = lv z ∧ RS w' (levF (nfC q) (nfK q)) z) [_] hF (enters_of Try.func19 (by kernel_rfl) rfl) rfl (by decide) (redS (RS.below hB hq) gq) ?_
          rintro _ w56 a ⟨z2, rfl, hz2⟩ B57 hF
          have sB57 := B57.size
          have hB := hB.trans (B57.mono hB.size)
          have m3 := m3.old B57
          have m4 := m4.old B57
          have hz1 := RS.below B57 hz1
          have hS := hS.below B57
          refine s_end ⟨hS, ?_⟩
          refine d_one 7 (some 90) (Go.Op.call (Go.Call.mk (Go.Callee.value (Go.Operand.func 18)) #[(Go.Operand.tmp 87), (Go.Operand.tmp 89)] #[24, 24])) (by kernel_rfl) (by kernel_rfl) fun ty pos af => ?_
          refine s_callB [_, _] hF (enters_of Try.func18 (by kernel_rfl) rfl) rfl (by decide) (Same18 _ _ z1 z2 w56 hz1 hz2 (by have := levF_size (c := nfC p) (nfK_len p gp); omega)) fun w58 a B59 hF => ?_
          have sB59 := B59.size
          have hB := hB.trans (B59.mono hB.size)
          have m3 := m3.old B59
          have m4 := m4.old B59
          have hz1 := RS.below B59 hz1
          have hz2 := RS.below B59 hz2
          have hS := hS.below B59
          rw [show decide (levF (nfC p) (nfK p) = levF (nfC q) (nfK q)) = decide (eqF p q) from decide_eq_decide.2 levF_inj, h5] at hF
          refine s_end ⟨hS, ?_⟩
          refine d_val 8 91 (op := (Go.Op.binOp Go.BinOp.eql 4 (Go.Operand.tmp 85) (Go.Operand.tmp 90) 4)) hF hS (by kernel_rfl) (fun W hW => x_eqB (b := true) Try.underlying4 rfl rfl rfl) (by kernel_rfl) (by decide) fun a hF => ?_
          refine d_val 9 92 (op := (Go.Op.move (Go.Operand.tmp 91))) hF hS (by kernel_rfl) (fun W hW => x_move rfl) (by kernel_rfl) (by decide) fun a hF => ?_
          refine d_oneg 10 92 (some 93) (Go.Op.call (Go.Call.mk (Go.Callee.value (Go.Operand.func 15)) #[] #[])) (j := 9) (want := true) hF (by kernel_rfl) (by kernel_rfl) (by kernel_rfl) rfl fun ty pos af => ?_
          refine s_callB [] hF (enters_of Try.func15 (by kernel_rfl) rfl) rfl (by decide) (awake15 w58) fun w60 a B61 hF => ?_
          have sB61 := B61.size
          have hB := hB.trans (B61.mono hB.size)
          have m3 := m3.old B61
          have m4 := m4.old B61
          have hz1 := RS.below B61 hz1
          have hz2 := RS.below B61 hz2
          have hS := hS.below B61
          refine s_end ⟨hS, ?_⟩
          refine d_val 11 94 (op := (Go.Op.pick (Go.Operand.tmp 92) (Go.Operand.tmp 93) (Go.Operand.const (Go.Value.bool false)))) hF hS (by kernel_rfl) (fun W hW => x_pick (b := true) rfl rfl) (by kernel_rfl) (by decide) fun a hF => ?_
          refine d_val 12 6 (op := (Go.Op.assign (Go.Operand.tmp 94))) hF hS (by kernel_rfl) (fun W hW => x_assign rfl) (by kernel_rfl) (by decide) fun a hF => ?_
          refine d_end (by kernel_rfl) (hK19 _ _ ?_)
          refine wp_ret (res_slot hF rfl rfl ⟨rfl, hB⟩)
        · have h5 : decide (eqF p q) = false := decide_eq_false (fun h => by have := eq_iff.1 h; exact absurd this.2 (of_decide_eq_false h4))
          refine dk2_seq (w.heap.size) (w.heap.size) (ops := regOps Try.f9 8) (N := 12) (by kernel_rfl) wide_orders (by kernel_rfl) fun w62 hw62 B63 hS K20 hK20 => ?_
          have zw62 : w62.heap.size = w.heap.size := by rw [hw62]
          have sB63 := B63.size
          have hB := hB.trans (B63.mono hB.size)
          have m3 := m3.old B63
          have m4 := m4.old B63
          have m3_d := m3
          have m4_d := m4
          have hB_d := hB
          refine d_val 0 71 (op := (Go.Op.load 24 (Go.Operand.tmp 3))) hF hS (by kernel_rfl) (fun W hW => x_ldW wide24 (m3_d.k2 hW (by omega)) rfl rfl) (by kernel_rfl) (by decide) fun a hF => ?_
          refine d_val 1 72 (op := (Go.Op.load 24 (Go.Operand.tmp 4))) hF hS (by kernel_rfl) (fun W hW => x_ldW wide24 (m4_d.k2 hW (by omega)) rfl rfl) (by kernel_rfl) (by decide) fun a hF => ?_
          refine d_val 3 74 (op := (Go.Op.load 24 (Go.Operand.tmp 3))) hF hS (by kernel_rfl) (fun W hW => x_ldW wide24 (m3_d.k2 hW (by omega)) rfl rfl) (by kernel_rfl) (by decide) fun a hF => ?_
          refine d_val 4 75 (op := (Go.Op.load 24 (Go.Operand.tmp 4))) hF hS (by kernel_rfl) (fun W hW => x_ldW wide24 (m4_d.k2 hW (by omega)) rfl rfl) (by kernel_rfl) (by decide) fun a hF => ?_
          refine d_one 2 (some 73) (Go.Op.call (Go.Call.mk (Go.Callee.value (Go.Operand.func 23)) #[(Go.Operand.tmp 71), (Go.Operand.tmp 72)] #[24, 24])) (by kernel_rfl) (by kernel_rfl) fun ty pos af => ?_
          refine s_callB [_, _] hF (enters_of Try.func23 (by kernel_rfl) rfl) rfl (by decide) (eqS (RS.below hB hp) (RS.below hB hq) gp gq) fun w64 a B65 hF => ?_
          have sB65 := B65.size
          have hB := hB.trans (B65.mono hB.size)
          have m3 := m3.old B65
          have m4 := m4.old B65
          have hS := hS.below B65
          rw [h5] at hF
          refine s_end ⟨hS, ?_⟩
          refine d_one 5 (some 76) (Go.Op.call (Go.Call.mk (Go.Callee.value (Go.Operand.func 25)) #[(Go.Operand.tmp 74), (Go.Operand.tmp 75)] #[24, 24])) (by kernel_rfl) (by kernel_rfl) fun ty pos af => ?_
          refine s_callB [_, _] hF (enters_of Try.func25 (by kernel_rfl) rfl) rfl (by decide) (leqS (RS.below hB hp) (RS.below hB hq) gp gq) fun w66 a B67 hF => ?_
          have sB67 := B67.size
          have hB := hB.trans (B67.mono hB.size)
          have m3 := m3.old B67
          have m4 := m4.old B67
          have hS := hS.below B67
          rw [h1] at hF
          refine s_end ⟨hS, ?_⟩
          refine d_val 6 77 (op := (Go.Op.move (Go.Operand.tmp 76))) hF hS (by kernel_rfl) (fun W hW => x_move rfl) (by kernel_rfl) (by decide) fun a hF => ?_
          refine d_valg 7 78 77 (j := 6) (want := true) (op := (Go.Op.load 24 (Go.Operand.tmp 4))) hF hS (by kernel_rfl) (by kernel_rfl) rfl (fun W hW => x_ldW wide24 (m4_d.k2 hW (by omega)) rfl rfl) (by kernel_rfl) (by decide) fun a hF => ?_
          refine d_valg 8 79 77 (j := 6) (want := true) (op := (Go.Op.load 24 (Go.Operand.tmp 3))) hF hS (by kernel_rfl) (by kernel_rfl) rfl (fun W hW => x_ldW wide24 (m3_d.k2 hW (by omega)) rfl rfl) (by kernel_rfl) (by decide) fun a hF => ?_
          refine d_oneg 9 77 (some 80) (Go.Op.call (Go.Call.mk (Go.Callee.value (Go.Operand.func 25)) #[(Go.Operand.tmp 78), (Go.Operand.tmp 79)] #[24, 24])) (j := 6) (want := true) hF (by kernel_rfl) (by kernel_rfl) (by kernel_rfl) rfl fun ty pos af => ?_
          refine s_callB [_, _] hF (enters_of Try.func25 (by kernel_rfl) rfl) rfl (by decide) (leqS (RS.below hB hq) (RS.below hB hp) gq gp) fun w68 a B69 hF => ?_
          have sB69 := B69.size
          have hB := hB.trans (B69.mono hB.size)
          have m3 := m3.old B69
          have m4 := m4.old B69
          have hS := hS.below B69
          rw [h4] at hF
          refine s_end ⟨hS, ?_⟩
          refine d_val 10 81 (op := (Go.Op.pick (Go.Operand.tmp 77) (Go.Operand.tmp 80) (Go.Operand.const (Go.Value.bool false)))) hF hS (by kernel_rfl) (fun W hW => x_pick (b := true) rfl rfl) (by kernel_rfl) (by decide) fun a hF => ?_
          refine d_val 11 82 (op := (Go.Op.binOp Go.BinOp.neq 4 (Go.Operand.tmp 73) (Go.Operand.tmp 81) 4)) hF hS (by kernel_rfl) (fun W hW => x_neB (b := false) Try.underlying4 rfl rfl rfl) (by kernel_rfl) (by decide) fun a hF => ?_
          refine d_end (by kernel_rfl) (hK20 _ _ ?_)
          refine wp_if hF rfl ?_
          refine wp_skip (hK16 _ _ ?_)
          refine dk2_seq (w68.heap.size) (w68.heap.size) (ops := regOps Try.f9 10) (N := 13) (by kernel_rfl) wide_orders (by kernel_rfl) fun w70 hw70 B71 hS K21 hK21 => ?_
          have zw70 : w70.heap.size = w68.heap.size := by rw [hw70]
          have sB71 := B71.size
          have hB := hB.trans (B71.mono hB.size)
          have m3 := m3.old B71
          have m4 := m4.old B71
          have m3_d := m3
          have m4_d := m4
          have hB_d := hB
          refine d_val 0 83 (op := (Go.Op.load 24 (Go.Operand.tmp 3))) hF hS (by kernel_rfl) (fun W hW => x_ldW wide24 (m3_d.k2 hW (by omega)) rfl rfl) (by kernel_rfl) (by decide) fun a hF => ?_
          refine d_val 1 84 (op := (Go.Op.load 24 (Go.Operand.tmp 4))) hF hS (by kernel_rfl) (fun W hW => x_ldW wide24 (m4_d.k2 hW (by omega)) rfl rfl) (by kernel_rfl) (by decide) fun a hF => ?_
          refine d_val 3 86 (op := (Go.Op.load 24 (Go.Operand.tmp 3))) hF hS (by kernel_rfl) (fun W hW => x_ldW wide24 (m3_d.k2 hW (by omega)) rfl rfl) (by kernel_rfl) (by decide) fun a hF => ?_
          refine d_val 5 88 (op := (Go.Op.load 24 (Go.Operand.tmp 4))) hF hS (by kernel_rfl) (fun W hW => x_ldW wide24 (m4_d.k2 hW (by omega)) rfl rfl) (by kernel_rfl) (by decide) fun a hF => ?_
          refine d_one 2 (some 85) (Go.Op.call (Go.Call.mk (Go.Callee.value (Go.Operand.func 23)) #[(Go.Operand.tmp 83), (Go.Operand.tmp 84)] #[24, 24])) (by kernel_rfl) (by kernel_rfl) fun ty pos af => ?_
          refine s_callB [_, _] hF (enters_of Try.func23 (by kernel_rfl) rfl) rfl (by decide) (eqS (RS.below hB hp) (RS.below hB hq) gp gq) fun w72 a B73 hF => ?_
          have sB73 := B73.size
          have hB := hB.trans (B73.mono hB.size)
          have m3 := m3.old B73
          have m4 := m4.old B73
          have hS := hS.below B73
          rw [h5] at hF
          refine s_end ⟨hS, ?_⟩
          refine d_one 4 (some 87) (Go.Op.call (Go.Call.mk (Go.Callee.value (Go.Operand.func 19)) #[(Go.Operand.tmp 86)] #[24])) (by kernel_rfl) (by kernel_rfl) fun ty pos af => ?_
          refine s_callR (R := fun v w' => ∃ z, v = lv z ∧ RS w' (levF (nfC p) (nfK p)) z) [_] hF (enters_of Try.func19 (by kernel_rfl) rfl) rfl (by decide) (redS (RS.below hB hp) gp) ?_
          rintro _ w74 a ⟨z1, rfl, hz1⟩ B75 hF
          have sB75 := B75.size
          have hB := hB.trans (B75.mono hB.size)
          have m3 := m3.old B75
          have m4 := m4.old B75
          have hS := hS.below B75
          refine s_end ⟨hS, ?_⟩
          refine d_one 6 (some 89) (Go.Op.call (Go.Call.mk (Go.Callee.value (Go.Operand.func 19)) #[(Go.Operand.tmp 88)] #[24])) (by kernel_rfl) (by kernel_rfl) fun ty pos af => ?_
          refine s_callR (R := fun v w' => ∃ z, v = lv z ∧ RS w' (levF (nfC q) (nfK q)) z) [_] hF (enters_of Try.func19 (by kernel_rfl) rfl) rfl (by decide) (redS (RS.below hB hq) gq) ?_
          rintro _ w76 a ⟨z2, rfl, hz2⟩ B77 hF
          have sB77 := B77.size
          have hB := hB.trans (B77.mono hB.size)
          have m3 := m3.old B77
          have m4 := m4.old B77
          have hz1 := RS.below B77 hz1
          have hS := hS.below B77
          refine s_end ⟨hS, ?_⟩
          refine d_one 7 (some 90) (Go.Op.call (Go.Call.mk (Go.Callee.value (Go.Operand.func 18)) #[(Go.Operand.tmp 87), (Go.Operand.tmp 89)] #[24, 24])) (by kernel_rfl) (by kernel_rfl) fun ty pos af => ?_
          refine s_callB [_, _] hF (enters_of Try.func18 (by kernel_rfl) rfl) rfl (by decide) (Same18 _ _ z1 z2 w76 hz1 hz2 (by have := levF_size (c := nfC p) (nfK_len p gp); omega)) fun w78 a B79 hF => ?_
          have sB79 := B79.size
          have hB := hB.trans (B79.mono hB.size)
          have m3 := m3.old B79
          have m4 := m4.old B79
          have hz1 := RS.below B79 hz1
          have hz2 := RS.below B79 hz2
          have hS := hS.below B79
          rw [show decide (levF (nfC p) (nfK p) = levF (nfC q) (nfK q)) = decide (eqF p q) from decide_eq_decide.2 levF_inj, h5] at hF
          refine s_end ⟨hS, ?_⟩
          refine d_val 8 91 (op := (Go.Op.binOp Go.BinOp.eql 4 (Go.Operand.tmp 85) (Go.Operand.tmp 90) 4)) hF hS (by kernel_rfl) (fun W hW => x_eqB (b := true) Try.underlying4 rfl rfl rfl) (by kernel_rfl) (by decide) fun a hF => ?_
          refine d_val 9 92 (op := (Go.Op.move (Go.Operand.tmp 91))) hF hS (by kernel_rfl) (fun W hW => x_move rfl) (by kernel_rfl) (by decide) fun a hF => ?_
          refine d_oneg 10 92 (some 93) (Go.Op.call (Go.Call.mk (Go.Callee.value (Go.Operand.func 15)) #[] #[])) (j := 9) (want := true) hF (by kernel_rfl) (by kernel_rfl) (by kernel_rfl) rfl fun ty pos af => ?_
          refine s_callB [] hF (enters_of Try.func15 (by kernel_rfl) rfl) rfl (by decide) (awake15 w78) fun w80 a B81 hF => ?_
          have sB81 := B81.size
          have hB := hB.trans (B81.mono hB.size)
          have m3 := m3.old B81
          have m4 := m4.old B81
          have hz1 := RS.below B81 hz1
          have hz2 := RS.below B81 hz2
          have hS := hS.below B81
          refine s_end ⟨hS, ?_⟩
          refine d_val 11 94 (op := (Go.Op.pick (Go.Operand.tmp 92) (Go.Operand.tmp 93) (Go.Operand.const (Go.Value.bool false)))) hF hS (by kernel_rfl) (fun W hW => x_pick (b := true) rfl rfl) (by kernel_rfl) (by decide) fun a hF => ?_
          refine d_val 12 6 (op := (Go.Op.assign (Go.Operand.tmp 94))) hF hS (by kernel_rfl) (fun W hW => x_assign rfl) (by kernel_rfl) (by decide) fun a hF => ?_
          refine d_end (by kernel_rfl) (hK21 _ _ ?_)
          refine wp_ret (res_slot hF rfl rfl ⟨rfl, hB⟩)
        · have h5 : decide (eqF p q) = false := decide_eq_false (fun h => by have := eq_iff.1 h; exact absurd this.1 (of_decide_eq_false h1))
          refine dk2_seq (w.heap.size) (w.heap.size) (ops := regOps Try.f9 8) (N := 12) (by kernel_rfl) wide_orders (by kernel_rfl) fun w82 hw82 B83 hS K22 hK22 => ?_
          have zw82 : w82.heap.size = w.heap.size := by rw [hw82]
          have sB83 := B83.size
          have hB := hB.trans (B83.mono hB.size)
          have m3 := m3.old B83
          have m4 := m4.old B83
          have m3_d := m3
          have m4_d := m4
          have hB_d := hB
          refine d_val 0 71 (op := (Go.Op.load 24 (Go.Operand.tmp 3))) hF hS (by kernel_rfl) (fun W hW => x_ldW wide24 (m3_d.k2 hW (by omega)) rfl rfl) (by kernel_rfl) (by decide) fun a hF => ?_
          refine d_val 1 72 (op := (Go.Op.load 24 (Go.Operand.tmp 4))) hF hS (by kernel_rfl) (fun W hW => x_ldW wide24 (m4_d.k2 hW (by omega)) rfl rfl) (by kernel_rfl) (by decide) fun a hF => ?_
          refine d_val 3 74 (op := (Go.Op.load 24 (Go.Operand.tmp 3))) hF hS (by kernel_rfl) (fun W hW => x_ldW wide24 (m3_d.k2 hW (by omega)) rfl rfl) (by kernel_rfl) (by decide) fun a hF => ?_
          refine d_val 4 75 (op := (Go.Op.load 24 (Go.Operand.tmp 4))) hF hS (by kernel_rfl) (fun W hW => x_ldW wide24 (m4_d.k2 hW (by omega)) rfl rfl) (by kernel_rfl) (by decide) fun a hF => ?_
          refine d_one 2 (some 73) (Go.Op.call (Go.Call.mk (Go.Callee.value (Go.Operand.func 23)) #[(Go.Operand.tmp 71), (Go.Operand.tmp 72)] #[24, 24])) (by kernel_rfl) (by kernel_rfl) fun ty pos af => ?_
          refine s_callB [_, _] hF (enters_of Try.func23 (by kernel_rfl) rfl) rfl (by decide) (eqS (RS.below hB hp) (RS.below hB hq) gp gq) fun w84 a B85 hF => ?_
          have sB85 := B85.size
          have hB := hB.trans (B85.mono hB.size)
          have m3 := m3.old B85
          have m4 := m4.old B85
          have hS := hS.below B85
          rw [h5] at hF
          refine s_end ⟨hS, ?_⟩
          refine d_one 5 (some 76) (Go.Op.call (Go.Call.mk (Go.Callee.value (Go.Operand.func 25)) #[(Go.Operand.tmp 74), (Go.Operand.tmp 75)] #[24, 24])) (by kernel_rfl) (by kernel_rfl) fun ty pos af => ?_
          refine s_callB [_, _] hF (enters_of Try.func25 (by kernel_rfl) rfl) rfl (by decide) (leqS (RS.below hB hp) (RS.below hB hq) gp gq) fun w86 a B87 hF => ?_
          have sB87 := B87.size
          have hB := hB.trans (B87.mono hB.size)
          have m3 := m3.old B87
          have m4 := m4.old B87
          have hS := hS.below B87
          rw [h1] at hF
          refine s_end ⟨hS, ?_⟩
          refine d_val 6 77 (op := (Go.Op.move (Go.Operand.tmp 76))) hF hS (by kernel_rfl) (fun W hW => x_move rfl) (by kernel_rfl) (by decide) fun a hF => ?_
          refine d_skip 7 78 77 (j := 6) (want := true) (op := (Go.Op.load 24 (Go.Operand.tmp 4))) hF hS (by kernel_rfl) (by kernel_rfl) rfl (by kernel_rfl) (by decide) fun a hF => ?_
          refine d_skip 8 79 77 (j := 6) (want := true) (op := (Go.Op.load 24 (Go.Operand.tmp 3))) hF hS (by kernel_rfl) (by kernel_rfl) rfl (by kernel_rfl) (by decide) fun a hF => ?_
          refine d_skip 9 80 77 (j := 6) (want := true) (op := (Go.Op.call (Go.Call.mk (Go.Callee.value (Go.Operand.func 25)) #[(Go.Operand.tmp 78), (Go.Operand.tmp 79)] #[24, 24]))) hF hS (by kernel_rfl) (by kernel_rfl) rfl (by kernel_rfl) (by decide) fun a hF => ?_
          refine d_val 10 81 (op := (Go.Op.pick (Go.Operand.tmp 77) (Go.Operand.tmp 80) (Go.Operand.const (Go.Value.bool false)))) hF hS (by kernel_rfl) (fun W hW => x_pick (b := false) rfl rfl) (by kernel_rfl) (by decide) fun a hF => ?_
          refine d_val 11 82 (op := (Go.Op.binOp Go.BinOp.neq 4 (Go.Operand.tmp 73) (Go.Operand.tmp 81) 4)) hF hS (by kernel_rfl) (fun W hW => x_neB (b := false) Try.underlying4 rfl rfl rfl) (by kernel_rfl) (by decide) fun a hF => ?_
          refine d_end (by kernel_rfl) (hK22 _ _ ?_)
          refine wp_if hF rfl ?_
          refine wp_skip (hK16 _ _ ?_)
          refine dk2_seq (w86.heap.size) (w86.heap.size) (ops := regOps Try.f9 10) (N := 13) (by kernel_rfl) wide_orders (by kernel_rfl) fun w88 hw88 B89 hS K23 hK23 => ?_
          have zw88 : w88.heap.size = w86.heap.size := by rw [hw88]
          have sB89 := B89.size
          have hB := hB.trans (B89.mono hB.size)
          have m3 := m3.old B89
          have m4 := m4.old B89
          have m3_d := m3
          have m4_d := m4
          have hB_d := hB
          refine d_val 0 83 (op := (Go.Op.load 24 (Go.Operand.tmp 3))) hF hS (by kernel_rfl) (fun W hW => x_ldW wide24 (m3_d.k2 hW (by omega)) rfl rfl) (by kernel_rfl) (by decide) fun a hF => ?_
          refine d_val 1 84 (op := (Go.Op.load 24 (Go.Operand.tmp 4))) hF hS (by kernel_rfl) (fun W hW => x_ldW wide24 (m4_d.k2 hW (by omega)) rfl rfl) (by kernel_rfl) (by decide) fun a hF => ?_
          refine d_val 3 86 (op := (Go.Op.load 24 (Go.Operand.tmp 3))) hF hS (by kernel_rfl) (fun W hW => x_ldW wide24 (m3_d.k2 hW (by omega)) rfl rfl) (by kernel_rfl) (by decide) fun a hF => ?_
          refine d_val 5 88 (op := (Go.Op.load 24 (Go.Operand.tmp 4))) hF hS (by kernel_rfl) (fun W hW => x_ldW wide24 (m4_d.k2 hW (by omega)) rfl rfl) (by kernel_rfl) (by decide) fun a hF => ?_
          refine d_one 2 (some 85) (Go.Op.call (Go.Call.mk (Go.Callee.value (Go.Operand.func 23)) #[(Go.Operand.tmp 83), (Go.Operand.tmp 84)] #[24, 24])) (by kernel_rfl) (by kernel_rfl) fun ty pos af => ?_
          refine s_callB [_, _] hF (enters_of Try.func23 (by kernel_rfl) rfl) rfl (by decide) (eqS (RS.below hB hp) (RS.below hB hq) gp gq) fun w90 a B91 hF => ?_
          have sB91 := B91.size
          have hB := hB.trans (B91.mono hB.size)
          have m3 := m3.old B91
          have m4 := m4.old B91
          have hS := hS.below B91
          rw [h5] at hF
          refine s_end ⟨hS, ?_⟩
          refine d_one 4 (some 87) (Go.Op.call (Go.Call.mk (Go.Callee.value (Go.Operand.func 19)) #[(Go.Operand.tmp 86)] #[24])) (by kernel_rfl) (by kernel_rfl) fun ty pos af => ?_
          refine s_callR (R := fun v w' => ∃ z, v = lv z ∧ RS w' (levF (nfC p) (nfK p)) z) [_] hF (enters_of Try.func19 (by kernel_rfl) rfl) rfl (by decide) (redS (RS.below hB hp) gp) ?_
          rintro _ w92 a ⟨z1, rfl, hz1⟩ B93 hF
          have sB93 := B93.size
          have hB := hB.trans (B93.mono hB.size)
          have m3 := m3.old B93
          have m4 := m4.old B93
          have hS := hS.below B93
          refine s_end ⟨hS, ?_⟩
          refine d_one 6 (some 89) (Go.Op.call (Go.Call.mk (Go.Callee.value (Go.Operand.func 19)) #[(Go.Operand.tmp 88)] #[24])) (by kernel_rfl) (by kernel_rfl) fun ty pos af => ?_
          refine s_callR (R := fun v w' => ∃ z, v = lv z ∧ RS w' (levF (nfC q) (nfK q)) z) [_] hF (enters_of Try.func19 (by kernel_rfl) rfl) rfl (by decide) (redS (RS.below hB hq) gq) ?_
          rintro _ w94 a ⟨z2, rfl, hz2⟩ B95 hF
          have sB95 := B95.size
          have hB := hB.trans (B95.mono hB.size)
          have m3 := m3.old B95
          have m4 := m4.old B95
          have hz1 := RS.below B95 hz1
          have hS := hS.below B95
          refine s_end ⟨hS, ?_⟩
          refine d_one 7 (some 90) (Go.Op.call (Go.Call.mk (Go.Callee.value (Go.Operand.func 18)) #[(Go.Operand.tmp 87), (Go.Operand.tmp 89)] #[24, 24])) (by kernel_rfl) (by kernel_rfl) fun ty pos af => ?_
          refine s_callB [_, _] hF (enters_of Try.func18 (by kernel_rfl) rfl) rfl (by decide) (Same18 _ _ z1 z2 w94 hz1 hz2 (by have := levF_size (c := nfC p) (nfK_len p gp); omega)) fun w96 a B97 hF => ?_
          have sB97 := B97.size
          have hB := hB.trans (B97.mono hB.size)
          have m3 := m3.old B97
          have m4 := m4.old B97
          have hz1 := RS.below B97 hz1
          have hz2 := RS.below B97 hz2
          have hS := hS.below B97
          rw [show decide (levF (nfC p) (nfK p) = levF (nfC q) (nfK q)) = decide (eqF p q) from decide_eq_decide.2 levF_inj, h5] at hF
          refine s_end ⟨hS, ?_⟩
          refine d_val 8 91 (op := (Go.Op.binOp Go.BinOp.eql 4 (Go.Operand.tmp 85) (Go.Operand.tmp 90) 4)) hF hS (by kernel_rfl) (fun W hW => x_eqB (b := true) Try.underlying4 rfl rfl rfl) (by kernel_rfl) (by decide) fun a hF => ?_
          refine d_val 9 92 (op := (Go.Op.move (Go.Operand.tmp 91))) hF hS (by kernel_rfl) (fun W hW => x_move rfl) (by kernel_rfl) (by decide) fun a hF => ?_
          refine d_oneg 10 92 (some 93) (Go.Op.call (Go.Call.mk (Go.Callee.value (Go.Operand.func 15)) #[] #[])) (j := 9) (want := true) hF (by kernel_rfl) (by kernel_rfl) (by kernel_rfl) rfl fun ty pos af => ?_
          refine s_callB [] hF (enters_of Try.func15 (by kernel_rfl) rfl) rfl (by decide) (awake15 w96) fun w98 a B99 hF => ?_
          have sB99 := B99.size
          have hB := hB.trans (B99.mono hB.size)
          have m3 := m3.old B99
          have m4 := m4.old B99
          have hz1 := RS.below B99 hz1
          have hz2 := RS.below B99 hz2
          have hS := hS.below B99
          refine s_end ⟨hS, ?_⟩
          refine d_val 11 94 (op := (Go.Op.pick (Go.Operand.tmp 92) (Go.Operand.tmp 93) (Go.Operand.const (Go.Value.bool false)))) hF hS (by kernel_rfl) (fun W hW => x_pick (b := true) rfl rfl) (by kernel_rfl) (by decide) fun a hF => ?_
          refine d_val 12 6 (op := (Go.Op.assign (Go.Operand.tmp 94))) hF hS (by kernel_rfl) (fun W hW => x_assign rfl) (by kernel_rfl) (by decide) fun a hF => ?_
          refine d_end (by kernel_rfl) (hK23 _ _ ?_)
          refine wp_ret (res_slot hF rfl rfl ⟨rfl, hB⟩)
        · have h5 : decide (eqF p q) = false := decide_eq_false (fun h => by have := eq_iff.1 h; exact absurd this.1 (of_decide_eq_false h1))
          refine dk2_seq (w.heap.size) (w.heap.size) (ops := regOps Try.f9 8) (N := 12) (by kernel_rfl) wide_orders (by kernel_rfl) fun w100 hw100 B101 hS K24 hK24 => ?_
          have zw100 : w100.heap.size = w.heap.size := by rw [hw100]
          have sB101 := B101.size
          have hB := hB.trans (B101.mono hB.size)
          have m3 := m3.old B101
          have m4 := m4.old B101
          have m3_d := m3
          have m4_d := m4
          have hB_d := hB
          refine d_val 0 71 (op := (Go.Op.load 24 (Go.Operand.tmp 3))) hF hS (by kernel_rfl) (fun W hW => x_ldW wide24 (m3_d.k2 hW (by omega)) rfl rfl) (by kernel_rfl) (by decide) fun a hF => ?_
          refine d_val 1 72 (op := (Go.Op.load 24 (Go.Operand.tmp 4))) hF hS (by kernel_rfl) (fun W hW => x_ldW wide24 (m4_d.k2 hW (by omega)) rfl rfl) (by kernel_rfl) (by decide) fun a hF => ?_
          refine d_val 3 74 (op := (Go.Op.load 24 (Go.Operand.tmp 3))) hF hS (by kernel_rfl) (fun W hW => x_ldW wide24 (m3_d.k2 hW (by omega)) rfl rfl) (by kernel_rfl) (by decide) fun a hF => ?_
          refine d_val 4 75 (op := (Go.Op.load 24 (Go.Operand.tmp 4))) hF hS (by kernel_rfl) (fun W hW => x_ldW wide24 (m4_d.k2 hW (by omega)) rfl rfl) (by kernel_rfl) (by decide) fun a hF => ?_
          refine d_one 2 (some 73) (Go.Op.call (Go.Call.mk (Go.Callee.value (Go.Operand.func 23)) #[(Go.Operand.tmp 71), (Go.Operand.tmp 72)] #[24, 24])) (by kernel_rfl) (by kernel_rfl) fun ty pos af => ?_
          refine s_callB [_, _] hF (enters_of Try.func23 (by kernel_rfl) rfl) rfl (by decide) (eqS (RS.below hB hp) (RS.below hB hq) gp gq) fun w102 a B103 hF => ?_
          have sB103 := B103.size
          have hB := hB.trans (B103.mono hB.size)
          have m3 := m3.old B103
          have m4 := m4.old B103
          have hS := hS.below B103
          rw [h5] at hF
          refine s_end ⟨hS, ?_⟩
          refine d_one 5 (some 76) (Go.Op.call (Go.Call.mk (Go.Callee.value (Go.Operand.func 25)) #[(Go.Operand.tmp 74), (Go.Operand.tmp 75)] #[24, 24])) (by kernel_rfl) (by kernel_rfl) fun ty pos af => ?_
          refine s_callB [_, _] hF (enters_of Try.func25 (by kernel_rfl) rfl) rfl (by decide) (leqS (RS.below hB hp) (RS.below hB hq) gp gq) fun w104 a B105 hF => ?_
          have sB105 := B105.size
          have hB := hB.trans (B105.mono hB.size)
          have m3 := m3.old B105
          have m4 := m4.old B105
          have hS := hS.below B105
          rw [h1] at hF
          refine s_end ⟨hS, ?_⟩
          refine d_val 6 77 (op := (Go.Op.move (Go.Operand.tmp 76))) hF hS (by kernel_rfl) (fun W hW => x_move rfl) (by kernel_rfl) (by decide) fun a hF => ?_
          refine d_skip 7 78 77 (j := 6) (want := true) (op := (Go.Op.load 24 (Go.Operand.tmp 4))) hF hS (by kernel_rfl) (by kernel_rfl) rfl (by kernel_rfl) (by decide) fun a hF => ?_
          refine d_skip 8 79 77 (j := 6) (want := true) (op := (Go.Op.load 24 (Go.Operand.tmp 3))) hF hS (by kernel_rfl) (by kernel_rfl) rfl (by kernel_rfl) (by decide) fun a hF => ?_
          refine d_skip 9 80 77 (j := 6) (want := true) (op := (Go.Op.call (Go.Call.mk (Go.Callee.value (Go.Operand.func 25)) #[(Go.Operand.tmp 78), (Go.Operand.tmp 79)] #[24, 24]))) hF hS (by kernel_rfl) (by kernel_rfl) rfl (by kernel_rfl) (by decide) fun a hF => ?_
          refine d_val 10 81 (op := (Go.Op.pick (Go.Operand.tmp 77) (Go.Operand.tmp 80) (Go.Operand.const (Go.Value.bool false)))) hF hS (by kernel_rfl) (fun W hW => x_pick (b := false) rfl rfl) (by kernel_rfl) (by decide) fun a hF => ?_
          refine d_val 11 82 (op := (Go.Op.binOp Go.BinOp.neq 4 (Go.Operand.tmp 73) (Go.Operand.tmp 81) 4)) hF hS (by kernel_rfl) (fun W hW => x_neB (b := false) Try.underlying4 rfl rfl rfl) (by kernel_rfl) (by decide) fun a hF => ?_
          refine d_end (by kernel_rfl) (hK24 _ _ ?_)
          refine wp_if hF rfl ?_
          refine wp_skip (hK16 _ _ ?_)
          refine dk2_seq (w104.heap.size) (w104.heap.size) (ops := regOps Try.f9 10) (N := 13) (by kernel_rfl) wide_orders (by kernel_rfl) fun w106 hw106 B107 hS K25 hK25 => ?_
          have zw106 : w106.heap.size = w104.heap.size := by rw [hw106]
          have sB107 := B107.size
          have hB := hB.trans (B107.mono hB.size)
          have m3 := m3.old B107
          have m4 := m4.old B107
          have m3_d := m3
          have m4_d := m4
          have hB_d := hB
          refine d_val 0 83 (op := (Go.Op.load 24 (Go.Operand.tmp 3))) hF hS (by kernel_rfl) (fun W hW => x_ldW wide24 (m3_d.k2 hW (by omega)) rfl rfl) (by kernel_rfl) (by decide) fun a hF => ?_
          refine d_val 1 84 (op := (Go.Op.load 24 (Go.Operand.tmp 4))) hF hS (by kernel_rfl) (fun W hW => x_ldW wide24 (m4_d.k2 hW (by omega)) rfl rfl) (by kernel_rfl) (by decide) fun a hF => ?_
          refine d_val 3 86 (op := (Go.Op.load 24 (Go.Operand.tmp 3))) hF hS (by kernel_rfl) (fun W hW => x_ldW wide24 (m3_d.k2 hW (by omega)) rfl rfl) (by kernel_rfl) (by decide) fun a hF => ?_
          refine d_val 5 88 (op := (Go.Op.load 24 (Go.Operand.tmp 4))) hF hS (by kernel_rfl) (fun W hW => x_ldW wide24 (m4_d.k2 hW (by omega)) rfl rfl) (by kernel_rfl) (by decide) fun a hF => ?_
          refine d_one 2 (some 85) (Go.Op.call (Go.Call.mk (Go.Callee.value (Go.Operand.func 23)) #[(Go.Operand.tmp 83), (Go.Operand.tmp 84)] #[24, 24])) (by kernel_rfl) (by kernel_rfl) fun ty pos af => ?_
          refine s_callB [_, _] hF (enters_of Try.func23 (by kernel_rfl) rfl) rfl (by decide) (eqS (RS.below hB hp) (RS.below hB hq) gp gq) fun w108 a B109 hF => ?_
          have sB109 := B109.size
          have hB := hB.trans (B109.mono hB.size)
          have m3 := m3.old B109
          have m4 := m4.old B109
          have hS := hS.below B109
          rw [h5] at hF
          refine s_end ⟨hS, ?_⟩
          refine d_one 4 (some 87) (Go.Op.call (Go.Call.mk (Go.Callee.value (Go.Operand.func 19)) #[(Go.Operand.tmp 86)] #[24])) (by kernel_rfl) (by kernel_rfl) fun ty pos af => ?_
          refine s_callR (R := fun v w' => ∃ z, v = lv z ∧ RS w' (levF (nfC p) (nfK p)) z) [_] hF (enters_of Try.func19 (by kernel_rfl) rfl) rfl (by decide) (redS (RS.below hB hp) gp) ?_
          rintro _ w110 a ⟨z1, rfl, hz1⟩ B111 hF
          have sB111 := B111.size
          have hB := hB.trans (B111.mono hB.size)
          have m3 := m3.old B111
          have m4 := m4.old B111
          have hS := hS.below B111
          refine s_end ⟨hS, ?_⟩
          refine d_one 6 (some 89) (Go.Op.call (Go.Call.mk (Go.Callee.value (Go.Operand.func 19)) #[(Go.Operand.tmp 88)] #[24])) (by kernel_rfl) (by kernel_rfl) fun ty pos af => ?_
          refine s_callR (R := fun v w' => ∃ z, v = lv z ∧ RS w' (levF (nfC q) (nfK q)) z) [_] hF (enters_of Try.func19 (by kernel_rfl) rfl) rfl (by decide) (redS (RS.below hB hq) gq) ?_
          rintro _ w112 a ⟨z2, rfl, hz2⟩ B113 hF
          have sB113 := B113.size
          have hB := hB.trans (B113.mono hB.size)
          have m3 := m3.old B113
          have m4 := m4.old B113
          have hz1 := RS.below B113 hz1
          have hS := hS.below B113
          refine s_end ⟨hS, ?_⟩
          refine d_one 7 (some 90) (Go.Op.call (Go.Call.mk (Go.Callee.value (Go.Operand.func 18)) #[(Go.Operand.tmp 87), (Go.Operand.tmp 89)] #[24, 24])) (by kernel_rfl) (by kernel_rfl) fun ty pos af => ?_
          refine s_callB [_, _] hF (enters_of Try.func18 (by kernel_rfl) rfl) rfl (by decide) (Same18 _ _ z1 z2 w112 hz1 hz2 (by have := levF_size (c := nfC p) (nfK_len p gp); omega)) fun w114 a B115 hF => ?_
          have sB115 := B115.size
          have hB := hB.trans (B115.mono hB.size)
          have m3 := m3.old B115
          have m4 := m4.old B115
          have hz1 := RS.below B115 hz1
          have hz2 := RS.below B115 hz2
          have hS := hS.below B115
          rw [show decide (levF (nfC p) (nfK p) = levF (nfC q) (nfK q)) = decide (eqF p q) from decide_eq_decide.2 levF_inj, h5] at hF
          refine s_end ⟨hS, ?_⟩
          refine d_val 8 91 (op := (Go.Op.binOp Go.BinOp.eql 4 (Go.Operand.tmp 85) (Go.Operand.tmp 90) 4)) hF hS (by kernel_rfl) (fun W hW => x_eqB (b := true) Try.underlying4 rfl rfl rfl) (by kernel_rfl) (by decide) fun a hF => ?_
          refine d_val 9 92 (op := (Go.Op.move (Go.Operand.tmp 91))) hF hS (by kernel_rfl) (fun W hW => x_move rfl) (by kernel_rfl) (by decide) fun a hF => ?_
          refine d_oneg 10 92 (some 93) (Go.Op.call (Go.Call.mk (Go.Callee.value (Go.Operand.func 15)) #[] #[])) (j := 9) (want := true) hF (by kernel_rfl) (by kernel_rfl) (by kernel_rfl) rfl fun ty pos af => ?_
          refine s_callB [] hF (enters_of Try.func15 (by kernel_rfl) rfl) rfl (by decide) (awake15 w114) fun w116 a B117 hF => ?_
          have sB117 := B117.size
          have hB := hB.trans (B117.mono hB.size)
          have m3 := m3.old B117
          have m4 := m4.old B117
          have hz1 := RS.below B117 hz1
          have hz2 := RS.below B117 hz2
          have hS := hS.below B117
          refine s_end ⟨hS, ?_⟩
          refine d_val 11 94 (op := (Go.Op.pick (Go.Operand.tmp 92) (Go.Operand.tmp 93) (Go.Operand.const (Go.Value.bool false)))) hF hS (by kernel_rfl) (fun W hW => x_pick (b := true) rfl rfl) (by kernel_rfl) (by decide) fun a hF => ?_
          refine d_val 12 6 (op := (Go.Op.assign (Go.Operand.tmp 94))) hF hS (by kernel_rfl) (fun W hW => x_assign rfl) (by kernel_rfl) (by decide) fun a hF => ?_
          refine d_end (by kernel_rfl) (hK25 _ _ ?_)
          refine wp_ret (res_slot hF rfl rfl ⟨rfl, hB⟩)
      have t1 : decide (leS p q) = true → decide (leS q r) = true → decide (leS p r) = true := fun h h' => decide_eq_true (le_trans' (of_decide_eq_true h) (of_decide_eq_true h'))
      have t2 : decide (leS p (.mx p q)) = true := decide_eq_true (le_left p q)
      have t3 : decide (leS q (.mx p q)) = true := decide_eq_true (le_right p q)
      rcases (show (decide (leS p q) = true ∧ decide (leS q r) = true ∧ decide (leS p r) = true) ∨ (decide (leS p q) = true ∧ decide (leS q r) = false ∧ decide (leS p r) = true) ∨ (decide (leS p q) = true ∧ decide (leS q r) = false ∧ decide (leS p r) = false) ∨ (decide (leS p q) = false ∧ decide (leS q r) = true ∧ decide (leS p r) = true) ∨ (decide (leS p q) = false ∧ decide (leS q r) = true ∧ decide (leS p r) = false) ∨ (decide (leS p q) = false ∧ decide (leS q r) = false ∧ decide (leS p r) = true) ∨ (decide (leS p q) = false ∧ decide (leS q r) = false ∧ decide (leS p r) = false) by first | (cases decide (leS p q) <;> cases decide (leS q r) <;> cases decide (leS p r) <;> simp; done) | (revert t1; cases decide (leS p q) <;> cases decide (leS q r) <;> cases decide (leS p r) <;> simp)) with ⟨h1, h2, h3⟩ | ⟨h1, h2, h3⟩ | ⟨h1, h2, h3⟩ | ⟨h1, h2, h3⟩ | ⟨h1, h2, h3⟩ | ⟨h1, h2, h3⟩ | ⟨h1, h2, h3⟩
      · have t4 : decide (leS (.mx p q) r) = true := decide_eq_true (le_lub (of_decide_eq_true h3) (of_decide_eq_true h2))
        refine wp_rs fun K27 hK27 => ?_
        refine s_val hF (x_ldW wide24 m3 rfl rfl) (by decide) fun a hF => ?_
        refine s_val hF (x_ldW wide24 m4 rfl rfl) (by decide) fun a hF => ?_
        refine s_callB [_, _] hF (enters_of Try.func25 (by kernel_rfl) rfl) rfl (by decide) (leqS (RS.below hB hp) (RS.below hB hq) gp gq) fun w118 a B119 hF => ?_
        have sB119 := B119.size
        have hB := hB.trans (B119.mono hB.size)
        have hBm := hBm.trans (B119.mono hBm.size)
        have m3 := m3.old B119
        have m4 := m4.old B119
        have m5 := m5.old B119
        have m7 := m7.old B119
        rw [h1] at hF
        refine s_val hF (x_move rfl) (by decide) fun a hF => ?_
        refine s_grd 32 hF rfl rfl rfl ?_
        refine s_val hF (x_ldW wide24 m4 rfl rfl) (by decide) fun a hF => ?_
        refine s_grd 32 hF rfl rfl rfl ?_
        refine s_val hF (x_ldW wide24 m5 rfl rfl) (by decide) fun a hF => ?_
        refine s_grd 32 hF rfl rfl rfl ?_
        refine s_callB [_, _] hF (enters_of Try.func25 (by kernel_rfl) rfl) rfl (by decide) (leqS (RS.below hB hq) (RS.below hB hr) gq gr) fun w120 a B121 hF => ?_
        have sB121 := B121.size
        have hB := hB.trans (B121.mono hB.size)
        have hBm := hBm.trans (B121.mono hBm.size)
        have m3 := m3.old B121
        have m4 := m4.old B121
        have m5 := m5.old B121
        have m7 := m7.old B121
        rw [h2] at hF
        refine s_val hF (x_pick (b := true) rfl rfl) (by decide) fun a hF => ?_
        refine s_val hF (x_move rfl) (by decide) fun a hF => ?_
        refine s_grd 37 hF rfl rfl rfl ?_
        refine s_val hF (x_ldW wide24 m3 rfl rfl) (by decide) fun a hF => ?_
        refine s_grd 37 hF rfl rfl rfl ?_
        refine s_val hF (x_ldW wide24 m5 rfl rfl) (by decide) fun a hF => ?_
        refine s_grd 37 hF rfl rfl rfl ?_
        refine s_callB [_, _] hF (enters_of Try.func25 (by kernel_rfl) rfl) rfl (by decide) (leqS (RS.below hB hp) (RS.below hB hr) gp gr) fun w122 a B123 hF => ?_
        have sB123 := B123.size
        have hB := hB.trans (B123.mono hB.size)
        have hBm := hBm.trans (B123.mono hBm.size)
        have m3 := m3.old B123
        have m4 := m4.old B123
        have m5 := m5.old B123
        have m7 := m7.old B123
        rw [h3] at hF
        refine s_grd 37 hF rfl rfl rfl ?_
        refine s_val hF (x_not rfl) (by decide) fun a hF => ?_
        refine s_val hF (x_pick (b := true) rfl rfl) (by decide) fun a hF => ?_
        refine s_val hF (x_move rfl) (by decide) fun a hF => ?_
        refine s_grd 43 hF rfl rfl rfl ?_
        refine s_val hF (x_ldW wide24 m3 rfl rfl) (by decide) fun a hF => ?_
        refine s_grd 43 hF rfl rfl rfl ?_
        refine s_val hF (x_ldW wide24 m7 rfl rfl) (by decide) fun a hF => ?_
        refine s_grd 43 hF rfl rfl rfl ?_
        refine s_callB [_, _] hF (enters_of Try.func25 (by kernel_rfl) rfl) rfl (by decide) (leqS (RS.below hB hp) (RS.below hBm hm) gp gm) fun w124 a B125 hF => ?_
        have sB125 := B125.size
        have hB := hB.trans (B125.mono hB.size)
        have hBm := hBm.trans (B125.mono hBm.size)
        have m3 := m3.old B125
        have m4 := m4.old B125
        have m5 := m5.old B125
        have m7 := m7.old B125
        rw [t2] at hF
        refine s_grd 43 hF rfl rfl rfl ?_
        refine s_val hF (x_not rfl) (by decide) fun a hF => ?_
        refine s_val hF (x_pick (b := false) rfl rfl) (by decide) fun a hF => ?_
        refine s_val hF (x_move rfl) (by decide) fun a hF => ?_
        refine s_grd 49 hF rfl rfl rfl ?_
        refine s_val hF (x_ldW wide24 m4 rfl rfl) (by decide) fun a hF => ?_
        refine s_grd 49 hF rfl rfl rfl ?_
        refine s_val hF (x_ldW wide24 m7 rfl rfl) (by decide) fun a hF => ?_
        refine s_grd 49 hF rfl rfl rfl ?_
        refine s_callB [_, _] hF (enters_of Try.func25 (by kernel_rfl) rfl) rfl (by decide) (leqS (RS.below hB hq) (RS.below hBm hm) gq gm) fun w126 a B127 hF => ?_
        have sB127 := B127.size
        have hB := hB.trans (B127.mono hB.size)
        have hBm := hBm.trans (B127.mono hBm.size)
        have m3 := m3.old B127
        have m4 := m4.old B127
        have m5 := m5.old B127
        have m7 := m7.old B127
        rw [t3] at hF
        refine s_grd 49 hF rfl rfl rfl ?_
        refine s_val hF (x_not rfl) (by decide) fun a hF => ?_
        refine s_val hF (x_pick (b := false) rfl rfl) (by decide) fun a hF => ?_
        refine s_val hF (x_move rfl) (by decide) fun a hF => ?_
        refine s_grd 55 hF rfl rfl rfl ?_
        refine s_val hF (x_ldW wide24 m3 rfl rfl) (by decide) fun a hF => ?_
        refine s_grd 55 hF rfl rfl rfl ?_
        refine s_val hF (x_ldW wide24 m5 rfl rfl) (by decide) fun a hF => ?_
        refine s_grd 55 hF rfl rfl rfl ?_
        refine s_callB [_, _] hF (enters_of Try.func25 (by kernel_rfl) rfl) rfl (by decide) (leqS (RS.below hB hp) (RS.below hB hr) gp gr) fun w128 a B129 hF => ?_
        have sB129 := B129.size
        have hB := hB.trans (B129.mono hB.size)
        have hBm := hBm.trans (B129.mono hBm.size)
        have m3 := m3.old B129
        have m4 := m4.old B129
        have m5 := m5.old B129
        have m7 := m7.old B129
        rw [h3] at hF
        refine s_grd 55 hF rfl rfl rfl ?_
        refine s_val hF (x_move rfl) (by decide) fun a hF => ?_
        refine s_grd 59 hF rfl rfl rfl ?_
        refine s_val hF (x_ldW wide24 m4 rfl rfl) (by decide) fun a hF => ?_
        refine s_grd 59 hF rfl rfl rfl ?_
        refine s_val hF (x_ldW wide24 m5 rfl rfl) (by decide) fun a hF => ?_
        refine s_grd 59 hF rfl rfl rfl ?_
        refine s_callB [_, _] hF (enters_of Try.func25 (by kernel_rfl) rfl) rfl (by decide) (leqS (RS.below hB hq) (RS.below hB hr) gq gr) fun w130 a B131 hF => ?_
        have sB131 := B131.size
        have hB := hB.trans (B131.mono hB.size)
        have hBm := hBm.trans (B131.mono hBm.size)
        have m3 := m3.old B131
        have m4 := m4.old B131
        have m5 := m5.old B131
        have m7 := m7.old B131
        rw [h2] at hF
        refine s_grd 55 hF rfl rfl rfl ?_
        refine s_val hF (x_pick (b := true) rfl rfl) (by decide) fun a hF => ?_
        refine s_grd 55 hF rfl rfl rfl ?_
        refine s_val hF (x_move rfl) (by decide) fun a hF => ?_
        refine s_grd 64 hF rfl rfl rfl ?_
        refine s_val hF (x_ldW wide24 m7 rfl rfl) (by decide) fun a hF => ?_
        refine s_grd 64 hF rfl rfl rfl ?_
        refine s_val hF (x_ldW wide24 m5 rfl rfl) (by decide) fun a hF => ?_
        refine s_grd 64 hF rfl rfl rfl ?_
        refine s_callB [_, _] hF (enters_of Try.func25 (by kernel_rfl) rfl) rfl (by decide) (leqS (RS.below hBm hm) (RS.below hB hr) gm gr) fun w132 a B133 hF => ?_
        have sB133 := B133.size
        have hB := hB.trans (B133.mono hB.size)
        have hBm := hBm.trans (B133.mono hBm.size)
        have m3 := m3.old B133
        have m4 := m4.old B133
        have m5 := m5.old B133
        have m7 := m7.old B133
        rw [t4] at hF
        refine s_grd 64 hF rfl rfl rfl ?_
        refine s_val hF (x_not rfl) (by decide) fun a hF => ?_
        refine s_grd 55 hF rfl rfl rfl ?_
        refine s_val hF (x_pick (b := true) rfl rfl) (by decide) fun a hF => ?_
        refine s_val hF (x_pick (b := false) rfl rfl) (by decide) fun a hF => ?_
        refine s_end (hK27 _ _ ?_)
        refine wp_if hF rfl ?_
        refine wp_skip ?_
        exact key15 _ _ hB m3 m4 (hF.sub _ rfl)
      · skip
        refine wp_rs fun K28 hK28 => ?_
        refine s_val hF (x_ldW wide24 m3 rfl rfl) (by decide) fun a hF => ?_
        refine s_val hF (x_ldW wide24 m4 rfl rfl) (by decide) fun a hF => ?_
        refine s_callB [_, _] hF (enters_of Try.func25 (by kernel_rfl) rfl) rfl (by decide) (leqS (RS.below hB hp) (RS.below hB hq) gp gq) fun w134 a B135 hF => ?_
        have sB135 := B135.size
        have hB := hB.trans (B135.mono hB.size)
        have hBm := hBm.trans (B135.mono hBm.size)
        have m3 := m3.old B135
        have m4 := m4.old B135
        have m5 := m5.old B135
        have m7 := m7.old B135
        rw [h1] at hF
        refine s_val hF (x_move rfl) (by decide) fun a hF => ?_
        refine s_grd 32 hF rfl rfl rfl ?_
        refine s_val hF (x_ldW wide24 m4 rfl rfl) (by decide) fun a hF => ?_
        refine s_grd 32 hF rfl rfl rfl ?_
        refine s_val hF (x_ldW wide24 m5 rfl rfl) (by decide) fun a hF => ?_
        refine s_grd 32 hF rfl rfl rfl ?_
        refine s_callB [_, _] hF (enters_of Try.func25 (by kernel_rfl) rfl) rfl (by decide) (leqS (RS.below hB hq) (RS.below hB hr) gq gr) fun w136 a B137 hF => ?_
        have sB137 := B137.size
        have hB := hB.trans (B137.mono hB.size)
        have hBm := hBm.trans (B137.mono hBm.size)
        have m3 := m3.old B137
        have m4 := m4.old B137
        have m5 := m5.old B137
        have m7 := m7.old B137
        rw [h2] at hF
        refine s_val hF (x_pick (b := true) rfl rfl) (by decide) fun a hF => ?_
        refine s_val hF (x_move rfl) (by decide) fun a hF => ?_
        refine s_grdn 37 hF rfl rfl (by decide) fun a hF => ?_
        refine s_grdn 37 hF rfl rfl (by decide) fun a hF => ?_
        refine s_grdn 37 hF rfl rfl (by decide) fun a hF => ?_
        refine s_grdn 37 hF rfl rfl (by decide) fun a hF => ?_
        refine s_val hF (x_pick (b := false) rfl rfl) (by decide) fun a hF => ?_
        refine s_val hF (x_move rfl) (by decide) fun a hF => ?_
        refine s_grd 43 hF rfl rfl rfl ?_
        refine s_val hF (x_ldW wide24 m3 rfl rfl) (by decide) fun a hF => ?_
        refine s_grd 43 hF rfl rfl rfl ?_
        refine s_val hF (x_ldW wide24 m7 rfl rfl) (by decide) fun a hF => ?_
        refine s_grd 43 hF rfl rfl rfl ?_
        refine s_callB [_, _] hF (enters_of Try.func25 (by kernel_rfl) rfl) rfl (by decide) (leqS (RS.below hB hp) (RS.below hBm hm) gp gm) fun w138 a B139 hF => ?_
        have sB139 := B139.size
        have hB := hB.trans (B139.mono hB.size)
        have hBm := hBm.trans (B139.mono hBm.size)
        have m3 := m3.old B139
        have m4 := m4.old B139
        have m5 := m5.old B139
        have m7 := m7.old B139
        rw [t2] at hF
        refine s_grd 43 hF rfl rfl rfl ?_
        refine s_val hF (x_not rfl) (by decide) fun a hF => ?_
        refine s_val hF (x_pick (b := false) rfl rfl) (by decide) fun a hF => ?_
        refine s_val hF (x_move rfl) (by decide) fun a hF => ?_
        refine s_grd 49 hF rfl rfl rfl ?_
        refine s_val hF (x_ldW wide24 m4 rfl rfl) (by decide) fun a hF => ?_
        refine s_grd 49 hF rfl rfl rfl ?_
        refine s_val hF (x_ldW wide24 m7 rfl rfl) (by decide) fun a hF => ?_
        refine s_grd 49 hF rfl rfl rfl ?_
        refine s_callB [_, _] hF (enters_of Try.func25 (by kernel_rfl) rfl) rfl (by decide) (leqS (RS.below hB hq) (RS.below hBm hm) gq gm) fun w140 a B141 hF => ?_
        have sB141 := B141.size
        have hB := hB.trans (B141.mono hB.size)
        have hBm := hBm.trans (B141.mono hBm.size)
        have m3 := m3.old B141
        have m4 := m4.old B141
        have m5 := m5.old B141
        have m7 := m7.old B141
        rw [t3] at hF
        refine s_grd 49 hF rfl rfl rfl ?_
        refine s_val hF (x_not rfl) (by decide) fun a hF => ?_
        refine s_val hF (x_pick (b := false) rfl rfl) (by decide) fun a hF => ?_
        refine s_val hF (x_move rfl) (by decide) fun a hF => ?_
        refine s_grd 55 hF rfl rfl rfl ?_
        refine s_val hF (x_ldW wide24 m3 rfl rfl) (by decide) fun a hF => ?_
        refine s_grd 55 hF rfl rfl rfl ?_
        refine s_val hF (x_ldW wide24 m5 rfl rfl) (by decide) fun a hF => ?_
        refine s_grd 55 hF rfl rfl rfl ?_
        refine s_callB [_, _] hF (enters_of Try.func25 (by kernel_rfl) rfl) rfl (by decide) (leqS (RS.below hB hp) (RS.below hB hr) gp gr) fun w142 a B143 hF => ?_
        have sB143 := B143.size
        have hB := hB.trans (B143.mono hB.size)
        have hBm := hBm.trans (B143.mono hBm.size)
        have m3 := m3.old B143
        have m4 := m4.old B143
        have m5 := m5.old B143
        have m7 := m7.old B143
        rw [h3] at hF
        refine s_grd 55 hF rfl rfl rfl ?_
        refine s_val hF (x_move rfl) (by decide) fun a hF => ?_
        refine s_grd 59 hF rfl rfl rfl ?_
        refine s_val hF (x_ldW wide24 m4 rfl rfl) (by decide) fun a hF => ?_
        refine s_grd 59 hF rfl rfl rfl ?_
        refine s_val hF (x_ldW wide24 m5 rfl rfl) (by decide) fun a hF => ?_
        refine s_grd 59 hF rfl rfl rfl ?_
        refine s_callB [_, _] hF (enters_of Try.func25 (by kernel_rfl) rfl) rfl (by decide) (leqS (RS.below hB hq) (RS.below hB hr) gq gr) fun w144 a B145 hF => ?_
        have sB145 := B145.size
        have hB := hB.trans (B145.mono hB.size)
        have hBm := hBm.trans (B145.mono hBm.size)
        have m3 := m3.old B145
        have m4 := m4.old B145
        have m5 := m5.old B145
        have m7 := m7.old B145
        rw [h2] at hF
        refine s_grd 55 hF rfl rfl rfl ?_
        refine s_val hF (x_pick (b := true) rfl rfl) (by decide) fun a hF => ?_
        refine s_grd 55 hF rfl rfl rfl ?_
        refine s_val hF (x_move rfl) (by decide) fun a hF => ?_
        refine s_grdn 64 hF rfl rfl (by decide) fun a hF => ?_
        refine s_grdn 64 hF rfl rfl (by decide) fun a hF => ?_
        refine s_grdn 64 hF rfl rfl (by decide) fun a hF => ?_
        refine s_grdn 64 hF rfl rfl (by decide) fun a hF => ?_
        refine s_grd 55 hF rfl rfl rfl ?_
        refine s_val hF (x_pick (b := false) rfl rfl) (by decide) fun a hF => ?_
        refine s_val hF (x_pick (b := false) rfl rfl) (by decide) fun a hF => ?_
        refine s_end (hK28 _ _ ?_)
        refine wp_if hF rfl ?_
        refine wp_skip ?_
        exact key15 _ _ hB m3 m4 (hF.sub _ rfl)
      · skip
        refine wp_rs fun K29 hK29 => ?_
        refine s_val hF (x_ldW wide24 m3 rfl rfl) (by decide) fun a hF => ?_
        refine s_val hF (x_ldW wide24 m4 rfl rfl) (by decide) fun a hF => ?_
        refine s_callB [_, _] hF (enters_of Try.func25 (by kernel_rfl) rfl) rfl (by decide) (leqS (RS.below hB hp) (RS.below hB hq) gp gq) fun w146 a B147 hF => ?_
        have sB147 := B147.size
        have hB := hB.trans (B147.mono hB.size)
        have hBm := hBm.trans (B147.mono hBm.size)
        have m3 := m3.old B147
        have m4 := m4.old B147
        have m5 := m5.old B147
        have m7 := m7.old B147
        rw [h1] at hF
        refine s_val hF (x_move rfl) (by decide) fun a hF => ?_
        refine s_grd 32 hF rfl rfl rfl ?_
        refine s_val hF (x_ldW wide24 m4 rfl rfl) (by decide) fun a hF => ?_
        refine s_grd 32 hF rfl rfl rfl ?_
        refine s_val hF (x_ldW wide24 m5 rfl rfl) (by decide) fun a hF => ?_
        refine s_grd 32 hF rfl rfl rfl ?_
        refine s_callB [_, _] hF (enters_of Try.func25 (by kernel_rfl) rfl) rfl (by decide) (leqS (RS.below hB hq) (RS.below hB hr) gq gr) fun w148 a B149 hF => ?_
        have sB149 := B149.size
        have hB := hB.trans (B149.mono hB.size)
        have hBm := hBm.trans (B149.mono hBm.size)
        have m3 := m3.old B149
        have m4 := m4.old B149
        have m5 := m5.old B149
        have m7 := m7.old B149
        rw [h2] at hF
        refine s_val hF (x_pick (b := true) rfl rfl) (by decide) fun a hF => ?_
        refine s_val hF (x_move rfl) (by decide) fun a hF => ?_
        refine s_grdn 37 hF rfl rfl (by decide) fun a hF => ?_
        refine s_grdn 37 hF rfl rfl (by decide) fun a hF => ?_
        refine s_grdn 37 hF rfl rfl (by decide) fun a hF => ?_
        refine s_grdn 37 hF rfl rfl (by decide) fun a hF => ?_
        refine s_val hF (x_pick (b := false) rfl rfl) (by decide) fun a hF => ?_
        refine s_val hF (x_move rfl) (by decide) fun a hF => ?_
        refine s_grd 43 hF rfl rfl rfl ?_
        refine s_val hF (x_ldW wide24 m3 rfl rfl) (by decide) fun a hF => ?_
        refine s_grd 43 hF rfl rfl rfl ?_
        refine s_val hF (x_ldW wide24 m7 rfl rfl) (by decide) fun a hF => ?_
        refine s_grd 43 hF rfl rfl rfl ?_
        refine s_callB [_, _] hF (enters_of Try.func25 (by kernel_rfl) rfl) rfl (by decide) (leqS (RS.below hB hp) (RS.below hBm hm) gp gm) fun w150 a B151 hF => ?_
        have sB151 := B151.size
        have hB := hB.trans (B151.mono hB.size)
        have hBm := hBm.trans (B151.mono hBm.size)
        have m3 := m3.old B151
        have m4 := m4.old B151
        have m5 := m5.old B151
        have m7 := m7.old B151
        rw [t2] at hF
        refine s_grd 43 hF rfl rfl rfl ?_
        refine s_val hF (x_not rfl) (by decide) fun a hF => ?_
        refine s_val hF (x_pick (b := false) rfl rfl) (by decide) fun a hF => ?_
        refine s_val hF (x_move rfl) (by decide) fun a hF => ?_
        refine s_grd 49 hF rfl rfl rfl ?_
        refine s_val hF (x_ldW wide24 m4 rfl rfl) (by decide) fun a hF => ?_
        refine s_grd 49 hF rfl rfl rfl ?_
        refine s_val hF (x_ldW wide24 m7 rfl rfl) (by decide) fun a hF => ?_
        refine s_grd 49 hF rfl rfl rfl ?_
        refine s_callB [_, _] hF (enters_of Try.func25 (by kernel_rfl) rfl) rfl (by decide) (leqS (RS.below hB hq) (RS.below hBm hm) gq gm) fun w152 a B153 hF => ?_
        have sB153 := B153.size
        have hB := hB.trans (B153.mono hB.size)
        have hBm := hBm.trans (B153.mono hBm.size)
        have m3 := m3.old B153
        have m4 := m4.old B153
        have m5 := m5.old B153
        have m7 := m7.old B153
        rw [t3] at hF
        refine s_grd 49 hF rfl rfl rfl ?_
        refine s_val hF (x_not rfl) (by decide) fun a hF => ?_
        refine s_val hF (x_pick (b := false) rfl rfl) (by decide) fun a hF => ?_
        refine s_val hF (x_move rfl) (by decide) fun a hF => ?_
        refine s_grd 55 hF rfl rfl rfl ?_
        refine s_val hF (x_ldW wide24 m3 rfl rfl) (by decide) fun a hF => ?_
        refine s_grd 55 hF rfl rfl rfl ?_
        refine s_val hF (x_ldW wide24 m5 rfl rfl) (by decide) fun a hF => ?_
        refine s_grd 55 hF rfl rfl rfl ?_
        refine s_callB [_, _] hF (enters_of Try.func25 (by kernel_rfl) rfl) rfl (by decide) (leqS (RS.below hB hp) (RS.below hB hr) gp gr) fun w154 a B155 hF => ?_
        have sB155 := B155.size
        have hB := hB.trans (B155.mono hB.size)
        have hBm := hBm.trans (B155.mono hBm.size)
        have m3 := m3.old B155
        have m4 := m4.old B155
        have m5 := m5.old B155
        have m7 := m7.old B155
        rw [h3] at hF
        refine s_grd 55 hF rfl rfl rfl ?_
        refine s_val hF (x_move rfl) (by decide) fun a hF => ?_
        refine s_grdn 59 hF rfl rfl (by decide) fun a hF => ?_
        refine s_grdn 59 hF rfl rfl (by decide) fun a hF => ?_
        refine s_grdn 59 hF rfl rfl (by decide) fun a hF => ?_
        refine s_grd 55 hF rfl rfl rfl ?_
        refine s_val hF (x_pick (b := false) rfl rfl) (by decide) fun a hF => ?_
        refine s_grd 55 hF rfl rfl rfl ?_
        refine s_val hF (x_move rfl) (by decide) fun a hF => ?_
        refine s_grdn 64 hF rfl rfl (by decide) fun a hF => ?_
        refine s_grdn 64 hF rfl rfl (by decide) fun a hF => ?_
        refine s_grdn 64 hF rfl rfl (by decide) fun a hF => ?_
        refine s_grdn 64 hF rfl rfl (by decide) fun a hF => ?_
        refine s_grd 55 hF rfl rfl rfl ?_
        refine s_val hF (x_pick (b := false) rfl rfl) (by decide) fun a hF => ?_
        refine s_val hF (x_pick (b := false) rfl rfl) (by decide) fun a hF => ?_
        refine s_end (hK29 _ _ ?_)
        refine wp_if hF rfl ?_
        refine wp_skip ?_
        exact key15 _ _ hB m3 m4 (hF.sub _ rfl)
      · have t4 : decide (leS (.mx p q) r) = true := decide_eq_true (le_lub (of_decide_eq_true h3) (of_decide_eq_true h2))
        refine wp_rs fun K30 hK30 => ?_
        refine s_val hF (x_ldW wide24 m3 rfl rfl) (by decide) fun a hF => ?_
        refine s_val hF (x_ldW wide24 m4 rfl rfl) (by decide) fun a hF => ?_
        refine s_callB [_, _] hF (enters_of Try.func25 (by kernel_rfl) rfl) rfl (by decide) (leqS (RS.below hB hp) (RS.below hB hq) gp gq) fun w156 a B157 hF => ?_
        have sB157 := B157.size
        have hB := hB.trans (B157.mono hB.size)
        have hBm := hBm.trans (B157.mono hBm.size)
        have m3 := m3.old B157
        have m4 := m4.old B157
        have m5 := m5.old B157
        have m7 := m7.old B157
        rw [h1] at hF
        refine s_val hF (x_move rfl) (by decide) fun a hF => ?_
        refine s_grdn 32 hF rfl rfl (by decide) fun a hF => ?_
        refine s_grdn 32 hF rfl rfl (by decide) fun a hF => ?_
        refine s_grdn 32 hF rfl rfl (by decide) fun a hF => ?_
        refine s_val hF (x_pick (b := false) rfl rfl) (by decide) fun a hF => ?_
        refine s_val hF (x_move rfl) (by decide) fun a hF => ?_
        refine s_grdn 37 hF rfl rfl (by decide) fun a hF => ?_
        refine s_grdn 37 hF rfl rfl (by decide) fun a hF => ?_
        refine s_grdn 37 hF rfl rfl (by decide) fun a hF => ?_
        refine s_grdn 37 hF rfl rfl (by decide) fun a hF => ?_
        refine s_val hF (x_pick (b := false) rfl rfl) (by decide) fun a hF => ?_
        refine s_val hF (x_move rfl) (by decide) fun a hF => ?_
        refine s_grd 43 hF rfl rfl rfl ?_
        refine s_val hF (x_ldW wide24 m3 rfl rfl) (by decide) fun a hF => ?_
        refine s_grd 43 hF rfl rfl rfl ?_
        refine s_val hF (x_ldW wide24 m7 rfl rfl) (by decide) fun a hF => ?_
        refine s_grd 43 hF rfl rfl rfl ?_
        refine s_callB [_, _] hF (enters_of Try.func25 (by kernel_rfl) rfl) rfl (by decide) (leqS (RS.below hB hp) (RS.below hBm hm) gp gm) fun w158 a B159 hF => ?_
        have sB159 := B159.size
        have hB := hB.trans (B159.mono hB.size)
        have hBm := hBm.trans (B159.mono hBm.size)
        have m3 := m3.old B159
        have m4 := m4.old B159
        have m5 := m5.old B159
        have m7 := m7.old B159
        rw [t2] at hF
        refine s_grd 43 hF rfl rfl rfl ?_
        refine s_val hF (x_not rfl) (by decide) fun a hF => ?_
        refine s_val hF (x_pick (b := false) rfl rfl) (by decide) fun a hF => ?_
        refine s_val hF (x_move rfl) (by decide) fun a hF => ?_
        refine s_grd 49 hF rfl rfl rfl ?_
        refine s_val hF (x_ldW wide24 m4 rfl rfl) (by decide) fun a hF => ?_
        refine s_grd 49 hF rfl rfl rfl ?_
        refine s_val hF (x_ldW wide24 m7 rfl rfl) (by decide) fun a hF => ?_
        refine s_grd 49 hF rfl rfl rfl ?_
        refine s_callB [_, _] hF (enters_of Try.func25 (by kernel_rfl) rfl) rfl (by decide) (leqS (RS.below hB hq) (RS.below hBm hm) gq gm) fun w160 a B161 hF => ?_
        have sB161 := B161.size
        have hB := hB.trans (B161.mono hB.size)
        have hBm := hBm.trans (B161.mono hBm.size)
        have m3 := m3.old B161
        have m4 := m4.old B161
        have m5 := m5.old B161
        have m7 := m7.old B161
        rw [t3] at hF
        refine s_grd 49 hF rfl rfl rfl ?_
        refine s_val hF (x_not rfl) (by decide) fun a hF => ?_
        refine s_val hF (x_pick (b := false) rfl rfl) (by decide) fun a hF => ?_
        refine s_val hF (x_move rfl) (by decide) fun a hF => ?_
        refine s_grd 55 hF rfl rfl rfl ?_
        refine s_val hF (x_ldW wide24 m3 rfl rfl) (by decide) fun a hF => ?_
        refine s_grd 55 hF rfl rfl rfl ?_
        refine s_val hF (x_ldW wide24 m5 rfl rfl) (by decide) fun a hF => ?_
        refine s_grd 55 hF rfl rfl rfl ?_
        refine s_callB [_, _] hF (enters_of Try.func25 (by kernel_rfl) rfl) rfl (by decide) (leqS (RS.below hB hp) (RS.below hB hr) gp gr) fun w162 a B163 hF => ?_
        have sB163 := B163.size
        have hB := hB.trans (B163.mono hB.size)
        have hBm := hBm.trans (B163.mono hBm.size)
        have m3 := m3.old B163
        have m4 := m4.old B163
        have m5 := m5.old B163
        have m7 := m7.old B163
        rw [h3] at hF
        refine s_grd 55 hF rfl rfl rfl ?_
        refine s_val hF (x_move rfl) (by decide) fun a hF => ?_
        refine s_grd 59 hF rfl rfl rfl ?_
        refine s_val hF (x_ldW wide24 m4 rfl rfl) (by decide) fun a hF => ?_
        refine s_grd 59 hF rfl rfl rfl ?_
        refine s_val hF (x_ldW wide24 m5 rfl rfl) (by decide) fun a hF => ?_
        refine s_grd 59 hF rfl rfl rfl ?_
        refine s_callB [_, _] hF (enters_of Try.func25 (by kernel_rfl) rfl) rfl (by decide) (leqS (RS.below hB hq) (RS.below hB hr) gq gr) fun w164 a B165 hF => ?_
        have sB165 := B165.size
        have hB := hB.trans (B165.mono hB.size)
        have hBm := hBm.trans (B165.mono hBm.size)
        have m3 := m3.old B165
        have m4 := m4.old B165
        have m5 := m5.old B165
        have m7 := m7.old B165
        rw [h2] at hF
        refine s_grd 55 hF rfl rfl rfl ?_
        refine s_val hF (x_pick (b := true) rfl rfl) (by decide) fun a hF => ?_
        refine s_grd 55 hF rfl rfl rfl ?_
        refine s_val hF (x_move rfl) (by decide) fun a hF => ?_
        refine s_grd 64 hF rfl rfl rfl ?_
        refine s_val hF (x_ldW wide24 m7 rfl rfl) (by decide) fun a hF => ?_
        refine s_grd 64 hF rfl rfl rfl ?_
        refine s_val hF (x_ldW wide24 m5 rfl rfl) (by decide) fun a hF => ?_
        refine s_grd 64 hF rfl rfl rfl ?_
        refine s_callB [_, _] hF (enters_of Try.func25 (by kernel_rfl) rfl) rfl (by decide) (leqS (RS.below hBm hm) (RS.below hB hr) gm gr) fun w166 a B167 hF => ?_
        have sB167 := B167.size
        have hB := hB.trans (B167.mono hB.size)
        have hBm := hBm.trans (B167.mono hBm.size)
        have m3 := m3.old B167
        have m4 := m4.old B167
        have m5 := m5.old B167
        have m7 := m7.old B167
        rw [t4] at hF
        refine s_grd 64 hF rfl rfl rfl ?_
        refine s_val hF (x_not rfl) (by decide) fun a hF => ?_
        refine s_grd 55 hF rfl rfl rfl ?_
        refine s_val hF (x_pick (b := true) rfl rfl) (by decide) fun a hF => ?_
        refine s_val hF (x_pick (b := false) rfl rfl) (by decide) fun a hF => ?_
        refine s_end (hK30 _ _ ?_)
        refine wp_if hF rfl ?_
        refine wp_skip ?_
        exact key15 _ _ hB m3 m4 (hF.sub _ rfl)
      · skip
        refine wp_rs fun K31 hK31 => ?_
        refine s_val hF (x_ldW wide24 m3 rfl rfl) (by decide) fun a hF => ?_
        refine s_val hF (x_ldW wide24 m4 rfl rfl) (by decide) fun a hF => ?_
        refine s_callB [_, _] hF (enters_of Try.func25 (by kernel_rfl) rfl) rfl (by decide) (leqS (RS.below hB hp) (RS.below hB hq) gp gq) fun w168 a B169 hF => ?_
        have sB169 := B169.size
        have hB := hB.trans (B169.mono hB.size)
        have hBm := hBm.trans (B169.mono hBm.size)
        have m3 := m3.old B169
        have m4 := m4.old B169
        have m5 := m5.old B169
        have m7 := m7.old B169
        rw [h1] at hF
        refine s_val hF (x_move rfl) (by decide) fun a hF => ?_
        refine s_grdn 32 hF rfl rfl (by decide) fun a hF => ?_
        refine s_grdn 32 hF rfl rfl (by decide) fun a hF => ?_
        refine s_grdn 32 hF rfl rfl (by decide) fun a hF => ?_
        refine s_val hF (x_pick (b := false) rfl rfl) (by decide) fun a hF => ?_
        refine s_val hF (x_move rfl) (by decide) fun a hF => ?_
        refine s_grdn 37 hF rfl rfl (by decide) fun a hF => ?_
        refine s_grdn 37 hF rfl rfl (by decide) fun a hF => ?_
        refine s_grdn 37 hF rfl rfl (by decide) fun a hF => ?_
        refine s_grdn 37 hF rfl rfl (by decide) fun a hF => ?_
        refine s_val hF (x_pick (b := false) rfl rfl) (by decide) fun a hF => ?_
        refine s_val hF (x_move rfl) (by decide) fun a hF => ?_
        refine s_grd 43 hF rfl rfl rfl ?_
        refine s_val hF (x_ldW wide24 m3 rfl rfl) (by decide) fun a hF => ?_
        refine s_grd 43 hF rfl rfl rfl ?_
        refine s_val hF (x_ldW wide24 m7 rfl rfl) (by decide) fun a hF => ?_
        refine s_grd 43 hF rfl rfl rfl ?_
        refine s_callB [_, _] hF (enters_of Try.func25 (by kernel_rfl) rfl) rfl (by decide) (leqS (RS.below hB hp) (RS.below hBm hm) gp gm) fun w170 a B171 hF => ?_
        have sB171 := B171.size
        have hB := hB.trans (B171.mono hB.size)
        have hBm := hBm.trans (B171.mono hBm.size)
        have m3 := m3.old B171
        have m4 := m4.old B171
        have m5 := m5.old B171
        have m7 := m7.old B171
        rw [t2] at hF
        refine s_grd 43 hF rfl rfl rfl ?_
        refine s_val hF (x_not rfl) (by decide) fun a hF => ?_
        refine s_val hF (x_pick (b := false) rfl rfl) (by decide) fun a hF => ?_
        refine s_val hF (x_move rfl) (by decide) fun a hF => ?_
        refine s_grd 49 hF rfl rfl rfl ?_
        refine s_val hF (x_ldW wide24 m4 rfl rfl) (by decide) fun a hF => ?_
        refine s_grd 49 hF rfl rfl rfl ?_
        refine s_val hF (x_ldW wide24 m7 rfl rfl) (by decide) fun a hF => ?_
        refine s_grd 49 hF rfl rfl rfl ?_
        refine s_callB [_, _] hF (enters_of Try.func25 (by kernel_rfl) rfl) rfl (by decide) (leqS (RS.below hB hq) (RS.below hBm hm) gq gm) fun w172 a B173 hF => ?_
        have sB173 := B173.size
        have hB := hB.trans (B173.mono hB.size)
        have hBm := hBm.trans (B173.mono hBm.size)
        have m3 := m3.old B173
        have m4 := m4.old B173
        have m5 := m5.old B173
        have m7 := m7.old B173
        rw [t3] at hF
        refine s_grd 49 hF rfl rfl rfl ?_
        refine s_val hF (x_not rfl) (by decide) fun a hF => ?_
        refine s_val hF (x_pick (b := false) rfl rfl) (by decide) fun a hF => ?_
        refine s_val hF (x_move rfl) (by decide) fun a hF => ?_
        refine s_grd 55 hF rfl rfl rfl ?_
        refine s_val hF (x_ldW wide24 m3 rfl rfl) (by decide) fun a hF => ?_
        refine s_grd 55 hF rfl rfl rfl ?_
        refine s_val hF (x_ldW wide24 m5 rfl rfl) (by decide) fun a hF => ?_
        refine s_grd 55 hF rfl rfl rfl ?_
        refine s_callB [_, _] hF (enters_of Try.func25 (by kernel_rfl) rfl) rfl (by decide) (leqS (RS.below hB hp) (RS.below hB hr) gp gr) fun w174 a B175 hF => ?_
        have sB175 := B175.size
        have hB := hB.trans (B175.mono hB.size)
        have hBm := hBm.trans (B175.mono hBm.size)
        have m3 := m3.old B175
        have m4 := m4.old B175
        have m5 := m5.old B175
        have m7 := m7.old B175
        rw [h3] at hF
        refine s_grd 55 hF rfl rfl rfl ?_
        refine s_val hF (x_move rfl) (by decide) fun a hF => ?_
        refine s_grdn 59 hF rfl rfl (by decide) fun a hF => ?_
        refine s_grdn 59 hF rfl rfl (by decide) fun a hF => ?_
        refine s_grdn 59 hF rfl rfl (by decide) fun a hF => ?_
        refine s_grd 55 hF rfl rfl rfl ?_
        refine s_val hF (x_pick (b := false) rfl rfl) (by decide) fun a hF => ?_
        refine s_grd 55 hF rfl rfl rfl ?_
        refine s_val hF (x_move rfl) (by decide) fun a hF => ?_
        refine s_grdn 64 hF rfl rfl (by decide) fun a hF => ?_
        refine s_grdn 64 hF rfl rfl (by decide) fun a hF => ?_
        refine s_grdn 64 hF rfl rfl (by decide) fun a hF => ?_
        refine s_grdn 64 hF rfl rfl (by decide) fun a hF => ?_
        refine s_grd 55 hF rfl rfl rfl ?_
        refine s_val hF (x_pick (b := false) rfl rfl) (by decide) fun a hF => ?_
        refine s_val hF (x_pick (b := false) rfl rfl) (by decide) fun a hF => ?_
        refine s_end (hK31 _ _ ?_)
        refine wp_if hF rfl ?_
        refine wp_skip ?_
        exact key15 _ _ hB m3 m4 (hF.sub _ rfl)
      · skip
        refine wp_rs fun K32 hK32 => ?_
        refine s_val hF (x_ldW wide24 m3 rfl rfl) (by decide) fun a hF => ?_
        refine s_val hF (x_ldW wide24 m4 rfl rfl) (by decide) fun a hF => ?_
        refine s_callB [_, _] hF (enters_of Try.func25 (by kernel_rfl) rfl) rfl (by decide) (leqS (RS.below hB hp) (RS.below hB hq) gp gq) fun w176 a B177 hF => ?_
        have sB177 := B177.size
        have hB := hB.trans (B177.mono hB.size)
        have hBm := hBm.trans (B177.mono hBm.size)
        have m3 := m3.old B177
        have m4 := m4.old B177
        have m5 := m5.old B177
        have m7 := m7.old B177
        rw [h1] at hF
        refine s_val hF (x_move rfl) (by decide) fun a hF => ?_
        refine s_grdn 32 hF rfl rfl (by decide) fun a hF => ?_
        refine s_grdn 32 hF rfl rfl (by decide) fun a hF => ?_
        refine s_grdn 32 hF rfl rfl (by decide) fun a hF => ?_
        refine s_val hF (x_pick (b := false) rfl rfl) (by decide) fun a hF => ?_
        refine s_val hF (x_move rfl) (by decide) fun a hF => ?_
        refine s_grdn 37 hF rfl rfl (by decide) fun a hF => ?_
        refine s_grdn 37 hF rfl rfl (by decide) fun a hF => ?_
        refine s_grdn 37 hF rfl rfl (by decide) fun a hF => ?_
        refine s_grdn 37 hF rfl rfl (by decide) fun a hF => ?_
        refine s_val hF (x_pick (b := false) rfl rfl) (by decide) fun a hF => ?_
        refine s_val hF (x_move rfl) (by decide) fun a hF => ?_
        refine s_grd 43 hF rfl rfl rfl ?_
        refine s_val hF (x_ldW wide24 m3 rfl rfl) (by decide) fun a hF => ?_
        refine s_grd 43 hF rfl rfl rfl ?_
        refine s_val hF (x_ldW wide24 m7 rfl rfl) (by decide) fun a hF => ?_
        refine s_grd 43 hF rfl rfl rfl ?_
        refine s_callB [_, _] hF (enters_of Try.func25 (by kernel_rfl) rfl) rfl (by decide) (leqS (RS.below hB hp) (RS.below hBm hm) gp gm) fun w178 a B179 hF => ?_
        have sB179 := B179.size
        have hB := hB.trans (B179.mono hB.size)
        have hBm := hBm.trans (B179.mono hBm.size)
        have m3 := m3.old B179
        have m4 := m4.old B179
        have m5 := m5.old B179
        have m7 := m7.old B179
        rw [t2] at hF
        refine s_grd 43 hF rfl rfl rfl ?_
        refine s_val hF (x_not rfl) (by decide) fun a hF => ?_
        refine s_val hF (x_pick (b := false) rfl rfl) (by decide) fun a hF => ?_
        refine s_val hF (x_move rfl) (by decide) fun a hF => ?_
        refine s_grd 49 hF rfl rfl rfl ?_
        refine s_val hF (x_ldW wide24 m4 rfl rfl) (by decide) fun a hF => ?_
        refine s_grd 49 hF rfl rfl rfl ?_
        refine s_val hF (x_ldW wide24 m7 rfl rfl) (by decide) fun a hF => ?_
        refine s_grd 49 hF rfl rfl rfl ?_
        refine s_callB [_, _] hF (enters_of Try.func25 (by kernel_rfl) rfl) rfl (by decide) (leqS (RS.below hB hq) (RS.below hBm hm) gq gm) fun w180 a B181 hF => ?_
        have sB181 := B181.size
        have hB := hB.trans (B181.mono hB.size)
        have hBm := hBm.trans (B181.mono hBm.size)
        have m3 := m3.old B181
        have m4 := m4.old B181
        have m5 := m5.old B181
        have m7 := m7.old B181
        rw [t3] at hF
        refine s_grd 49 hF rfl rfl rfl ?_
        refine s_val hF (x_not rfl) (by decide) fun a hF => ?_
        refine s_val hF (x_pick (b := false) rfl rfl) (by decide) fun a hF => ?_
        refine s_val hF (x_move rfl) (by decide) fun a hF => ?_
        refine s_grd 55 hF rfl rfl rfl ?_
        refine s_val hF (x_ldW wide24 m3 rfl rfl) (by decide) fun a hF => ?_
        refine s_grd 55 hF rfl rfl rfl ?_
        refine s_val hF (x_ldW wide24 m5 rfl rfl) (by decide) fun a hF => ?_
        refine s_grd 55 hF rfl rfl rfl ?_
        refine s_callB [_, _] hF (enters_of Try.func25 (by kernel_rfl) rfl) rfl (by decide) (leqS (RS.below hB hp) (RS.below hB hr) gp gr) fun w182 a B183 hF => ?_
        have sB183 := B183.size
        have hB := hB.trans (B183.mono hB.size)
        have hBm := hBm.trans (B183.mono hBm.size)
        have m3 := m3.old B183
        have m4 := m4.old B183
        have m5 := m5.old B183
        have m7 := m7.old B183
        rw [h3] at hF
        refine s_grd 55 hF rfl rfl rfl ?_
        refine s_val hF (x_move rfl) (by decide) fun a hF => ?_
        refine s_grd 59 hF rfl rfl rfl ?_
        refine s_val hF (x_ldW wide24 m4 rfl rfl) (by decide) fun a hF => ?_
        refine s_grd 59 hF rfl rfl rfl ?_
        refine s_val hF (x_ldW wide24 m5 rfl rfl) (by decide) fun a hF => ?_
        refine s_grd 59 hF rfl rfl rfl ?_
        refine s_callB [_, _] hF (enters_of Try.func25 (by kernel_rfl) rfl) rfl (by decide) (leqS (RS.below hB hq) (RS.below hB hr) gq gr) fun w184 a B185 hF => ?_
        have sB185 := B185.size
        have hB := hB.trans (B185.mono hB.size)
        have hBm := hBm.trans (B185.mono hBm.size)
        have m3 := m3.old B185
        have m4 := m4.old B185
        have m5 := m5.old B185
        have m7 := m7.old B185
        rw [h2] at hF
        refine s_grd 55 hF rfl rfl rfl ?_
        refine s_val hF (x_pick (b := true) rfl rfl) (by decide) fun a hF => ?_
        refine s_grd 55 hF rfl rfl rfl ?_
        refine s_val hF (x_move rfl) (by decide) fun a hF => ?_
        refine s_grdn 64 hF rfl rfl (by decide) fun a hF => ?_
        refine s_grdn 64 hF rfl rfl (by decide) fun a hF => ?_
        refine s_grdn 64 hF rfl rfl (by decide) fun a hF => ?_
        refine s_grdn 64 hF rfl rfl (by decide) fun a hF => ?_
        refine s_grd 55 hF rfl rfl rfl ?_
        refine s_val hF (x_pick (b := false) rfl rfl) (by decide) fun a hF => ?_
        refine s_val hF (x_pick (b := false) rfl rfl) (by decide) fun a hF => ?_
        refine s_end (hK32 _ _ ?_)
        refine wp_if hF rfl ?_
        refine wp_skip ?_
        exact key15 _ _ hB m3 m4 (hF.sub _ rfl)
      · skip
        refine wp_rs fun K33 hK33 => ?_
        refine s_val hF (x_ldW wide24 m3 rfl rfl) (by decide) fun a hF => ?_
        refine s_val hF (x_ldW wide24 m4 rfl rfl) (by decide) fun a hF => ?_
        refine s_callB [_, _] hF (enters_of Try.func25 (by kernel_rfl) rfl) rfl (by decide) (leqS (RS.below hB hp) (RS.below hB hq) gp gq) fun w186 a B187 hF => ?_
        have sB187 := B187.size
        have hB := hB.trans (B187.mono hB.size)
        have hBm := hBm.trans (B187.mono hBm.size)
        have m3 := m3.old B187
        have m4 := m4.old B187
        have m5 := m5.old B187
        have m7 := m7.old B187
        rw [h1] at hF
        refine s_val hF (x_move rfl) (by decide) fun a hF => ?_
        refine s_grdn 32 hF rfl rfl (by decide) fun a hF => ?_
        refine s_grdn 32 hF rfl rfl (by decide) fun a hF => ?_
        refine s_grdn 32 hF rfl rfl (by decide) fun a hF => ?_
        refine s_val hF (x_pick (b := false) rfl rfl) (by decide) fun a hF => ?_
        refine s_val hF (x_move rfl) (by decide) fun a hF => ?_
        refine s_grdn 37 hF rfl rfl (by decide) fun a hF => ?_
        refine s_grdn 37 hF rfl rfl (by decide) fun a hF => ?_
        refine s_grdn 37 hF rfl rfl (by decide) fun a hF => ?_
        refine s_grdn 37 hF rfl rfl (by decide) fun a hF => ?_
        refine s_val hF (x_pick (b := false) rfl rfl) (by decide) fun a hF => ?_
        refine s_val hF (x_move rfl) (by decide) fun a hF => ?_
        refine s_grd 43 hF rfl rfl rfl ?_
        refine s_val hF (x_ldW wide24 m3 rfl rfl) (by decide) fun a hF => ?_
        refine s_grd 43 hF rfl rfl rfl ?_
        refine s_val hF (x_ldW wide24 m7 rfl rfl) (by decide) fun a hF => ?_
        refine s_grd 43 hF rfl rfl rfl ?_
        refine s_callB [_, _] hF (enters_of Try.func25 (by kernel_rfl) rfl) rfl (by decide) (leqS (RS.below hB hp) (RS.below hBm hm) gp gm) fun w188 a B189 hF => ?_
        have sB189 := B189.size
        have hB := hB.trans (B189.mono hB.size)
        have hBm := hBm.trans (B189.mono hBm.size)
        have m3 := m3.old B189
        have m4 := m4.old B189
        have m5 := m5.old B189
        have m7 := m7.old B189
        rw [t2] at hF
        refine s_grd 43 hF rfl rfl rfl ?_
        refine s_val hF (x_not rfl) (by decide) fun a hF => ?_
        refine s_val hF (x_pick (b := false) rfl rfl) (by decide) fun a hF => ?_
        refine s_val hF (x_move rfl) (by decide) fun a hF => ?_
        refine s_grd 49 hF rfl rfl rfl ?_
        refine s_val hF (x_ldW wide24 m4 rfl rfl) (by decide) fun a hF => ?_
        refine s_grd 49 hF rfl rfl rfl ?_
        refine s_val hF (x_ldW wide24 m7 rfl rfl) (by decide) fun a hF => ?_
        refine s_grd 49 hF rfl rfl rfl ?_
        refine s_callB [_, _] hF (enters_of Try.func25 (by kernel_rfl) rfl) rfl (by decide) (leqS (RS.below hB hq) (RS.below hBm hm) gq gm) fun w190 a B191 hF => ?_
        have sB191 := B191.size
        have hB := hB.trans (B191.mono hB.size)
        have hBm := hBm.trans (B191.mono hBm.size)
        have m3 := m3.old B191
        have m4 := m4.old B191
        have m5 := m5.old B191
        have m7 := m7.old B191
        rw [t3] at hF
        refine s_grd 49 hF rfl rfl rfl ?_
        refine s_val hF (x_not rfl) (by decide) fun a hF => ?_
        refine s_val hF (x_pick (b := false) rfl rfl) (by decide) fun a hF => ?_
        refine s_val hF (x_move rfl) (by decide) fun a hF => ?_
        refine s_grd 55 hF rfl rfl rfl ?_
        refine s_val hF (x_ldW wide24 m3 rfl rfl) (by decide) fun a hF => ?_
        refine s_grd 55 hF rfl rfl rfl ?_
        refine s_val hF (x_ldW wide24 m5 rfl rfl) (by decide) fun a hF => ?_
        refine s_grd 55 hF rfl rfl rfl ?_
        refine s_callB [_, _] hF (enters_of Try.func25 (by kernel_rfl) rfl) rfl (by decide) (leqS (RS.below hB hp) (RS.below hB hr) gp gr) fun w192 a B193 hF => ?_
        have sB193 := B193.size
        have hB := hB.trans (B193.mono hB.size)
        have hBm := hBm.trans (B193.mono hBm.size)
        have m3 := m3.old B193
        have m4 := m4.old B193
        have m5 := m5.old B193
        have m7 := m7.old B193
        rw [h3] at hF
        refine s_grd 55 hF rfl rfl rfl ?_
        refine s_val hF (x_move rfl) (by decide) fun a hF => ?_
        refine s_grdn 59 hF rfl rfl (by decide) fun a hF => ?_
        refine s_grdn 59 hF rfl rfl (by decide) fun a hF => ?_
        refine s_grdn 59 hF rfl rfl (by decide) fun a hF => ?_
        refine s_grd 55 hF rfl rfl rfl ?_
        refine s_val hF (x_pick (b := false) rfl rfl) (by decide) fun a hF => ?_
        refine s_grd 55 hF rfl rfl rfl ?_
        refine s_val hF (x_move rfl) (by decide) fun a hF => ?_
        refine s_grdn 64 hF rfl rfl (by decide) fun a hF => ?_
        refine s_grdn 64 hF rfl rfl (by decide) fun a hF => ?_
        refine s_grdn 64 hF rfl rfl (by decide) fun a hF => ?_
        refine s_grdn 64 hF rfl rfl (by decide) fun a hF => ?_
        refine s_grd 55 hF rfl rfl rfl ?_
        refine s_val hF (x_pick (b := false) rfl rfl) (by decide) fun a hF => ?_
        refine s_val hF (x_pick (b := false) rfl rfl) (by decide) fun a hF => ?_
        refine s_end (hK33 _ _ ?_)
        refine wp_if hF rfl ?_
        refine wp_skip ?_
        exact key15 _ _ hB m3 m4 (hF.sub _ rfl)
end Go.Proofs.Ytnnkggfhhkhnmaa
