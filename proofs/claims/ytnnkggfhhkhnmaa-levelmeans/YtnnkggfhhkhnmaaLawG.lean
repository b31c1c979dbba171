/- LevelMeans. -/
import Derived.Test.YtnnkggfhhkhnmaaPureN
namespace Go.Proofs.Ytnnkggfhhkhnmaa
open Go.RowKit Go.Shelf
set_option linter.unusedVariables false
set_option linter.unusedSimpArgs false

theorem em8 (A B C : Prop) : (A ∧ B ∧ C) ∨ (A ∧ B ∧ ¬ C) ∨ (A ∧ ¬ B ∧ C) ∨ (A ∧ ¬ B ∧ ¬ C) ∨ (¬ A ∧ B ∧ C) ∨ (¬ A ∧ B ∧ ¬ C) ∨ (¬ A ∧ ¬ B ∧ C) ∨ (¬ A ∧ ¬ B ∧ ¬ C) := by
  by_cases h1 : A <;> by_cases h2 : B <;> by_cases h3 : C <;> simp [h1, h2, h3]
theorem getD_set0 (M : List Int) (i j : Nat) : (M.set i 0).getD j 0 = if j = i then 0 else M.getD j 0 := by
  rw [List.getD_eq_getElem?_getD, List.getD_eq_getElem?_getD, List.getElem?_set]
  by_cases h : i = j
  · subst h
    by_cases h2 : i < M.length <;> simp [h2]
  · rw [if_neg h, if_neg (fun e => h e.symm)]
theorem set_cells {M : List Int} {i : Nat} (h : i < M.length) : ([] ++ (ints M).take (i * 1) ++ [Value.int .i64 0]) ++ (ints M).drop ((i + 1) * 1) = ints (M.set i 0) := by
  rw [ints_set, List.set_eq_take_append_cons_drop, if_pos (by simpa using h)]
  simp
theorem rho_rng {M : List Int} (h : ∀ j, j < M.length → 0 ≤ M.getD j 0 ∧ M.getD j 0 ≤ 1073741824) (j : Nat) : 0 ≤ rho M j ∧ rho M j ≤ 1073741824 := by
  by_cases hj : j < M.length
  · have := h j hj
    unfold rho
    omega
  · rw [rho_ge (by omega)]
    omega
theorem rho_zero (n : Nat) : rho (List.replicate n 0) = fun _ => 0 := by
  funext j
  unfold rho
  rw [List.getD_eq_getElem?_getD, List.getElem?_replicate]
  split <;> rfl
theorem rho_one {n i : Nat} (h : i < n) : rho ((List.replicate n 0).set i 34359738368) = oneAt i := by
  funext j
  unfold rho oneAt
  rw [List.getD_eq_getElem?_getD, List.getElem?_set]
  by_cases e : i = j
  · subst e
    simp [h]
    decide
  · rw [if_neg e, if_neg (fun e' => e e'.symm), List.getElem?_replicate]
    split <;> rfl
theorem ints_rep (n : Nat) (z : Int) : ints (List.replicate n z) = List.replicate n (.int .i64 z) := by simp
section
variable {P : Program} {n d : Nat} {l : List (Nat × Value)} {w : World} {a : Act} {ops : Array Oper} {Q : Exit → Act → World → Prop} {rest : List Oper} {ty : TypeId} {pos : String} {af : Array Edge} {x y : Operand}
theorem ktw_low {b c : Nat} {wd w w' : World} (h : Ktw b c wd w) (B : Below wd.heap.size w w') : Ktw b c wd w' := ⟨B.os.trans h.os, B.tape.trans h.tape, B.output.trans h.output, Nat.le_trans h.size B.size, fun k hk hne => (B.block k hk).trans (h.block k hk hne)⟩
theorem x_addr {t t' : TypeId} {p q : Int} (r : Int) (h : p + q = r) (h1 : -9223372036854775808 ≤ p + q) (h2 : p + q < 9223372036854775808) (hx : ov l x = some (.int .i64 p)) (hy : ov l y = some (.int .i64 q)) : Runs P n l w (.binOp .add t x y t') (.int .i64 r) := by
  subst h
  exact x_add h1 h2 hx hy
theorem s_appB {t e k kb base m p : Nat} {v u : Value} {xs ys : List Value} (hE : Elem P t e k kb) (hF : Fs n a l) (hd : d < n) (hx : ov l x = some v) (hy : ov l y = some u) (hO : w.ownsRow base e k v m xs) (hR : Rd w u k p ys) (h1 : ∀ u ∈ ys, u.oneCell' = true) (hlen : (m + p) * kb ≤ 140737488355328) (hml : m + p ≤ maxLen) (hb : base ≤ w.heap.size)
    (h : ∀ v' w' a', w'.ownsRow base e k v' (m + p) (xs ++ ys) → Below base w w' → Fs n a' ((d, v') :: l) → wpList P ops Q rest a' w') :
    wpList P ops Q (⟨some d, .call { callee := .builtin .append, args := #[x, y], argTypes := #[t, t] }, ty, pos, af, none⟩ :: rest) a w :=
  s_appG hE hF hd hx hy hO hR h1 hlen hml hb fun v' w' a' h2 h3 _ h5 => h v' w' a' h2 (grown_below h3 hb fun k hk => (hO.lt k hk).1) h5
theorem s_mk29 {p q : Int} (m : Nat) (hF : Fs n a l) (hd : d < n) (hx : ov l x = some (.int .i64 p)) (hy : ov l y = some (.int .i64 q)) (hm : m ≤ 100000) (hp : p = (m : Int)) (hq : q = (m : Int))
    (h : ∀ w' b a', b = w.heap.size → Blk w' b 3 (List.replicate m (.int .i64 0)) → Below w.heap.size w w' → w'.heap.size = w.heap.size + 1 → Fs n a' ((d, .slice (some ⟨b, 0, none⟩) m m) :: l) → wpList Try.prog ops Q rest a' w') :
    wpList Try.prog ops Q (⟨some d, .makeSlice 29 x y, ty, pos, af, none⟩ :: rest) a w := by
  obtain ⟨i, z, hi, hz, hs, hby, hzc⟩ := el29.info
  have e : z = .int .i64 0 := by
    have := zero3
    rw [hi] at this
    simpa [hz] using this
  subst e
  exact s_make m hF hd hx hy Try.underlying29 hi hz hs rfl (by rw [hby]; omega) (by omega) hp hq h
end

set_option maxRecDepth 100000 in
set_option maxHeartbeats 1600000 in
theorem levelMeans_walk (x y : C3) (la lb : Lv) (vs : List Int) (vv : Value) (w0 : World) (hLa : RL w0 x la) (hLb : RL w0 y lb) (hV : Rd w0 vv 1 vs.length (ints vs)) (hvn : vs.length ≤ 9223372036854775807) : Calls Try.prog 8 #[lv x, lv y, vv] w0 fun e w' => e = .returned (.bool true) ∧ Below w0.heap.size w0 w' := by
  obtain ⟨av, cv, rfl, _⟩ := hV.form
  have hB := Below.refl w0.heap.size w0
  have sB := hB.size
  refine calls_fs 133 [(0, lv x), (1, lv y), (2, .slice av vs.length cv)] Try.func8 rfl rfl rfl rfl rfl fun a hF => ?_
  refine wp_rs fun K1 hK1 => ?_
  refine s_box (lc x) hF (by decide) rfl rfl fun w2 b3 a eb3 m3 B3 zb3 hF => ?_
  have sB3 := B3.size
  have hB := hB.trans (B3.mono hB.size)
  refine s_box (lc y) hF (by decide) rfl rfl fun w4 b4 a eb4 m4 B5 zb4 hF => ?_
  have sB5 := B5.size
  have hB := hB.trans (B5.mono hB.size)
  have m3 := m3.old B5
  refine s_val hF (x_assign rfl) (by decide) fun a hF => ?_
  refine s_end (hK1 _ _ ?_)
  refine wp_seq_k fun K2 hK2 => ?_
  rcases (show ¬ sndL la ∨ (sndL la ∧ ¬ sndL lb) ∨ (sndL la ∧ sndL lb ∧ 1100 < vs.length) ∨ (sndL la ∧ sndL lb ∧ vs.length ≤ 1100) by by_cases h : sndL la <;> by_cases h' : sndL lb <;> simp [h, h'] <;> omega) with hn | ⟨hn, hn2⟩ | ⟨hn, hn2, h5⟩ | ⟨hn, hn2, h5⟩
  · skip
    refine wp_rs fun K4 hK4 => ?_
    refine s_val hF (x_ldW wide24 m3 rfl rfl) (by decide) fun a hF => ?_
    refine s_callB [_] hF (enters_of Try.func17 (by kernel_rfl) rfl) rfl (by decide) (rSound17 x la w4 (hLa.old hB)) fun w6 a B7 hF => ?_
    have sB7 := B7.size
    have hB := hB.trans (B7.mono hB.size)
    have m3 := m3.old B7
    have m4 := m4.old B7
    rw [decide_eq_false hn] at hF
    refine s_val hF (x_not rfl) (by decide) fun a hF => ?_
    refine s_val hF (x_move rfl) (by decide) fun a hF => ?_
    refine s_grdn 19 hF rfl rfl (by decide) fun a hF => ?_
    refine s_grdn 19 hF rfl rfl (by decide) fun a hF => ?_
    refine s_grdn 19 hF rfl rfl (by decide) fun a hF => ?_
    refine s_val hF (x_pick (b := true) rfl rfl) (by decide) fun a hF => ?_
    refine s_val hF (x_move rfl) (by decide) fun a hF => ?_
    refine s_grdn 24 hF rfl rfl (by decide) fun a hF => ?_
    refine s_grdn 24 hF rfl rfl (by decide) fun a hF => ?_
    refine s_grdn 24 hF rfl rfl (by decide) fun a hF => ?_
    refine s_val hF (x_pick (b := true) rfl rfl) (by decide) fun a hF => ?_
    refine s_val hF (x_move rfl) (by decide) fun a hF => ?_
    refine s_grdn 29 hF rfl rfl (by decide) fun a hF => ?_
    refine s_grdn 29 hF rfl rfl (by decide) fun a hF => ?_
    refine s_grdn 29 hF rfl rfl (by decide) fun a hF => ?_
    refine s_val hF (x_pick (b := true) rfl rfl) (by decide) fun a hF => ?_
    refine s_val hF (x_move rfl) (by decide) fun a hF => ?_
    refine s_grdn 34 hF rfl rfl (by decide) fun a hF => ?_
    refine s_grdn 34 hF rfl rfl (by decide) fun a hF => ?_
    refine s_grdn 34 hF rfl rfl (by decide) fun a hF => ?_
    refine s_val hF (x_pick (b := true) rfl rfl) (by decide) fun a hF => ?_
    refine s_end (hK4 _ _ ?_)
    refine wp_if hF rfl ?_
    refine wp_rs fun K5 hK5 => ?_
    refine s_callB [] hF (enters_of Try.func15 (by kernel_rfl) rfl) rfl (by decide) (awake15 w6) fun w8 a B9 hF => ?_
    have sB9 := B9.size
    have hB := hB.trans (B9.mono hB.size)
    have m3 := m3.old B9
    have m4 := m4.old B9
    refine s_val hF (x_assign rfl) (by decide) fun a hF => ?_
    refine s_end (hK5 _ _ ?_)
    refine wp_ret (then_ret (res_slot hF rfl rfl ⟨rfl, hB⟩))
  · skip
    refine wp_rs fun K6 hK6 => ?_
    refine s_val hF (x_ldW wide24 m3 rfl rfl) (by decide) fun a hF => ?_
    refine s_callB [_] hF (enters_of Try.func17 (by kernel_rfl) rfl) rfl (by decide) (rSound17 x la w4 (hLa.old hB)) fun w10 a B11 hF => ?_
    have sB11 := B11.size
    have hB := hB.trans (B11.mono hB.size)
    have m3 := m3.old B11
    have m4 := m4.old B11
    rw [decide_eq_true hn] at hF
    refine s_val hF (x_not rfl) (by decide) fun a hF => ?_
    refine s_val hF (x_move rfl) (by decide) fun a hF => ?_
    refine s_grd 19 hF rfl rfl rfl ?_
    refine s_val hF (x_ldW wide24 m4 rfl rfl) (by decide) fun a hF => ?_
    refine s_grd 19 hF rfl rfl rfl ?_
    refine s_callB [_] hF (enters_of Try.func17 (by kernel_rfl) rfl) rfl (by decide) (rSound17 y lb w10 (hLb.old hB)) fun w12 a B13 hF => ?_
    have sB13 := B13.size
    have hB := hB.trans (B13.mono hB.size)
    have m3 := m3.old B13
    have m4 := m4.old B13
    rw [decide_eq_false hn2] at hF
    refine s_grd 19 hF rfl rfl rfl ?_
    refine s_val hF (x_not rfl) (by decide) fun a hF => ?_
    refine s_val hF (x_pick (b := false) rfl rfl) (by decide) fun a hF => ?_
    refine s_val hF (x_move rfl) (by decide) fun a hF => ?_
    refine s_grdn 24 hF rfl rfl (by decide) fun a hF => ?_
    refine s_grdn 24 hF rfl rfl (by decide) fun a hF => ?_
    refine s_grdn 24 hF rfl rfl (by decide) fun a hF => ?_
    refine s_val hF (x_pick (b := true) rfl rfl) (by decide) fun a hF => ?_
    refine s_val hF (x_move rfl) (by decide) fun a hF => ?_
    refine s_grdn 29 hF rfl rfl (by decide) fun a hF => ?_
    refine s_grdn 29 hF rfl rfl (by decide) fun a hF => ?_
    refine s_grdn 29 hF rfl rfl (by decide) fun a hF => ?_
    refine s_val hF (x_pick (b := true) rfl rfl) (by decide) fun a hF => ?_
    refine s_val hF (x_move rfl) (by decide) fun a hF => ?_
    refine s_grdn 34 hF rfl rfl (by decide) fun a hF => ?_
    refine s_grdn 34 hF rfl rfl (by decide) fun a hF => ?_
    refine s_grdn 34 hF rfl rfl (by decide) fun a hF => ?_
    refine s_val hF (x_pick (b := true) rfl rfl) (by decide) fun a hF => ?_
    refine s_end (hK6 _ _ ?_)
    refine wp_if hF rfl ?_
    refine wp_rs fun K7 hK7 => ?_
    refine s_callB [] hF (enters_of Try.func15 (by kernel_rfl) rfl) rfl (by decide) (awake15 w12) fun w14 a B15 hF => ?_
    have sB15 := B15.size
    have hB := hB.trans (B15.mono hB.size)
    have m3 := m3.old B15
    have m4 := m4.old B15
    refine s_val hF (x_assign rfl) (by decide) fun a hF => ?_
    refine s_end (hK7 _ _ ?_)
    refine wp_ret (then_ret (res_slot hF rfl rfl ⟨rfl, hB⟩))
  · obtain ⟨p, hp, gp⟩ := sound_sl hLa hn
    obtain ⟨q, hq, gq⟩ := sound_sl hLb hn2
    refine wp_rs fun K8 hK8 => ?_
    refine s_val hF (x_ldW wide24 m3 rfl rfl) (by decide) fun a hF => ?_
    refine s_callB [_] hF (enters_of Try.func17 (by kernel_rfl) rfl) rfl (by decide) (rSound17 x la w4 (hLa.old hB)) fun w16 a B17 hF => ?_
    have sB17 := B17.size
    have hB := hB.trans (B17.mono hB.size)
    have m3 := m3.old B17
    have m4 := m4.old B17
    rw [decide_eq_true hn] at hF
    refine s_val hF (x_not rfl) (by decide) fun a hF => ?_
    refine s_val hF (x_move rfl) (by decide) fun a hF => ?_
    refine s_grd 19 hF rfl rfl rfl ?_
    refine s_val hF (x_ldW wide24 m4 rfl rfl) (by decide) fun a hF => ?_
    refine s_grd 19 hF rfl rfl rfl ?_
    refine s_callB [_] hF (enters_of Try.func17 (by kernel_rfl) rfl) rfl (by decide) (rSound17 y lb w16 (hLb.old hB)) fun w18 a B19 hF => ?_
    have sB19 := B19.size
    have hB := hB.trans (B19.mono hB.size)
    have m3 := m3.old B19
    have m4 := m4.old B19
    rw [decide_eq_true hn2] at hF
    refine s_grd 19 hF rfl rfl rfl ?_
    refine s_val hF (x_not rfl) (by decide) fun a hF => ?_
    refine s_val hF (x_pick (b := false) rfl rfl) (by decide) fun a hF => ?_
    refine s_val hF (x_move rfl) (by decide) fun a hF => ?_
    refine s_grd 24 hF rfl rfl rfl ?_
    refine s_val hF (x_ldW wide24 m3 rfl rfl) (by decide) fun a hF => ?_
    refine s_grd 24 hF rfl rfl rfl ?_
    refine s_callR (R := fun v w' => ∃ b, v = .bool b ∧ (b = true → p.lit)) [_] hF (enters_of Try.func31 (by kernel_rfl) rfl) rfl (by decide) (little31 (p.size + 1) p x w18 (by omega) (RS.below hB hp)) ?_
    rintro _ w20 a ⟨b26, rfl, hb26⟩ B21 hF
    have sB21 := B21.size
    have hB := hB.trans (B21.mono hB.size)
    have m3 := m3.old B21
    have m4 := m4.old B21
    cases b26
    · refine s_grd 24 hF rfl rfl rfl ?_
      refine s_val hF (x_not rfl) (by decide) fun a hF => ?_
      refine s_val hF (x_pick (b := false) rfl rfl) (by decide) fun a hF => ?_
      refine s_val hF (x_move rfl) (by decide) fun a hF => ?_
      refine s_grdn 29 hF rfl rfl (by decide) fun a hF => ?_
      refine s_grdn 29 hF rfl rfl (by decide) fun a hF => ?_
      refine s_grdn 29 hF rfl rfl (by decide) fun a hF => ?_
      refine s_val hF (x_pick (b := true) rfl rfl) (by decide) fun a hF => ?_
      refine s_val hF (x_move rfl) (by decide) fun a hF => ?_
      refine s_grdn 34 hF rfl rfl (by decide) fun a hF => ?_
      refine s_grdn 34 hF rfl rfl (by decide) fun a hF => ?_
      refine s_grdn 34 hF rfl rfl (by decide) fun a hF => ?_
      refine s_val hF (x_pick (b := true) rfl rfl) (by decide) fun a hF => ?_
      refine s_end (hK8 _ _ ?_)
      refine wp_if hF rfl ?_
      refine wp_rs fun K9 hK9 => ?_
      refine s_callB [] hF (enters_of Try.func15 (by kernel_rfl) rfl) rfl (by decide) (awake15 w20) fun w22 a B23 hF => ?_
      have sB23 := B23.size
      have hB := hB.trans (B23.mono hB.size)
      have m3 := m3.old B23
      have m4 := m4.old B23
      refine s_val hF (x_assign rfl) (by decide) fun a hF => ?_
      refine s_end (hK9 _ _ ?_)
      refine wp_ret (then_ret (res_slot hF rfl rfl ⟨rfl, hB⟩))
    · refine s_grd 24 hF rfl rfl rfl ?_
      refine s_val hF (x_not rfl) (by decide) fun a hF => ?_
      refine s_val hF (x_pick (b := false) rfl rfl) (by decide) fun a hF => ?_
      refine s_val hF (x_move rfl) (by decide) fun a hF => ?_
      refine s_grd 29 hF rfl rfl rfl ?_
      refine s_val hF (x_ldW wide24 m4 rfl rfl) (by decide) fun a hF => ?_
      refine s_grd 29 hF rfl rfl rfl ?_
      refine s_callR (R := fun v w' => ∃ b, v = .bool b ∧ (b = true → q.lit)) [_] hF (enters_of Try.func31 (by kernel_rfl) rfl) rfl (by decide) (little31 (q.size + 1) q y w20 (by omega) (RS.below hB hq)) ?_
      rintro _ w24 a ⟨b31, rfl, hb31⟩ B25 hF
      have sB25 := B25.size
      have hB := hB.trans (B25.mono hB.size)
      have m3 := m3.old B25
      have m4 := m4.old B25
      cases b31
      · refine s_grd 29 hF rfl rfl rfl ?_
        refine s_val hF (x_not rfl) (by decide) fun a hF => ?_
        refine s_val hF (x_pick (b := false) rfl rfl) (by decide) fun a hF => ?_
        refine s_val hF (x_move rfl) (by decide) fun a hF => ?_
        refine s_grdn 34 hF rfl rfl (by decide) fun a hF => ?_
        refine s_grdn 34 hF rfl rfl (by decide) fun a hF => ?_
        refine s_grdn 34 hF rfl rfl (by decide) fun a hF => ?_
        refine s_val hF (x_pick (b := true) rfl rfl) (by decide) fun a hF => ?_
        refine s_end (hK8 _ _ ?_)
        refine wp_if hF rfl ?_
        refine wp_rs fun K10 hK10 => ?_
        refine s_callB [] hF (enters_of Try.func15 (by kernel_rfl) rfl) rfl (by decide) (awake15 w24) fun w26 a B27 hF => ?_
        have sB27 := B27.size
        have hB := hB.trans (B27.mono hB.size)
        have m3 := m3.old B27
        have m4 := m4.old B27
        refine s_val hF (x_assign rfl) (by decide) fun a hF => ?_
        refine s_end (hK10 _ _ ?_)
        refine wp_ret (then_ret (res_slot hF rfl rfl ⟨rfl, hB⟩))
      · refine s_grd 29 hF rfl rfl rfl ?_
        refine s_val hF (x_not rfl) (by decide) fun a hF => ?_
        refine s_val hF (x_pick (b := false) rfl rfl) (by decide) fun a hF => ?_
        refine s_val hF (x_move rfl) (by decide) fun a hF => ?_
        refine s_grd 34 hF rfl rfl rfl ?_
        refine s_val hF (x_move rfl) (by decide) fun a hF => ?_
        refine s_grd 34 hF rfl rfl rfl ?_
        refine s_val hF (x_len Try.underlying29 rfl) (by decide) fun a hF => ?_
        refine s_grd 34 hF rfl rfl rfl ?_
        refine s_val hF (x_gtr (b := true) (decide_eq_true (by omega)) rfl rfl) (by decide) fun a hF => ?_
        refine s_val hF (x_pick (b := false) rfl rfl) (by decide) fun a hF => ?_
        refine s_end (hK8 _ _ ?_)
        refine wp_if hF rfl ?_
        refine wp_rs fun K11 hK11 => ?_
        refine s_callB [] hF (enters_of Try.func15 (by kernel_rfl) rfl) rfl (by decide) (awake15 w24) fun w28 a B29 hF => ?_
        have sB29 := B29.size
        have hB := hB.trans (B29.mono hB.size)
        have m3 := m3.old B29
        have m4 := m4.old B29
        refine s_val hF (x_assign rfl) (by decide) fun a hF => ?_
        refine s_end (hK11 _ _ ?_)
        refine wp_ret (then_ret (res_slot hF rfl rfl ⟨rfl, hB⟩))
  · obtain ⟨p, hp, gp⟩ := sound_sl hLa hn
    obtain ⟨q, hq, gq⟩ := sound_sl hLb hn2
    refine wp_rs fun K12 hK12 => ?_
    refine s_val hF (x_ldW wide24 m3 rfl rfl) (by decide) fun a hF => ?_
    refine s_callB [_] hF (enters_of Try.func17 (by kernel_rfl) rfl) rfl (by decide) (rSound17 x la w4 (hLa.old hB)) fun w30 a B31 hF => ?_
    have sB31 := B31.size
    have hB := hB.trans (B31.mono hB.size)
    have m3 := m3.old B31
    have m4 := m4.old B31
    rw [decide_eq_true hn] at hF
    refine s_val hF (x_not rfl) (by decide) fun a hF => ?_
    refine s_val hF (x_move rfl) (by decide) fun a hF => ?_
    refine s_grd 19 hF rfl rfl rfl ?_
    refine s_val hF (x_ldW wide24 m4 rfl rfl) (by decide) fun a hF => ?_
    refine s_grd 19 hF rfl rfl rfl ?_
    refine s_callB [_] hF (enters_of Try.func17 (by kernel_rfl) rfl) rfl (by decide) (rSound17 y lb w30 (hLb.old hB)) fun w32 a B33 hF => ?_
    have sB33 := B33.size
    have hB := hB.trans (B33.mono hB.size)
    have m3 := m3.old B33
    have m4 := m4.old B33
    rw [decide_eq_true hn2] at hF
    refine s_grd 19 hF rfl rfl rfl ?_
    refine s_val hF (x_not rfl) (by decide) fun a hF => ?_
    refine s_val hF (x_pick (b := false) rfl rfl) (by decide) fun a hF => ?_
    refine s_val hF (x_move rfl) (by decide) fun a hF => ?_
    refine s_grd 24 hF rfl rfl rfl ?_
    refine s_val hF (x_ldW wide24 m3 rfl rfl) (by decide) fun a hF => ?_
    refine s_grd 24 hF rfl rfl rfl ?_
    refine s_callR (R := fun v w' => ∃ b, v = .bool b ∧ (b = true → p.lit)) [_] hF (enters_of Try.func31 (by kernel_rfl) rfl) rfl (by decide) (little31 (p.size + 1) p x w32 (by omega) (RS.below hB hp)) ?_
    rintro _ w34 a ⟨b26, rfl, hb26⟩ B35 hF
    have sB35 := B35.size
    have hB := hB.trans (B35.mono hB.size)
    have m3 := m3.old B35
    have m4 := m4.old B35
    cases b26
    · refine s_grd 24 hF rfl rfl rfl ?_
      refine s_val hF (x_not rfl) (by decide) fun a hF => ?_
      refine s_val hF (x_pick (b := false) rfl rfl) (by decide) fun a hF => ?_
      refine s_val hF (x_move rfl) (by decide) fun a hF => ?_
      refine s_grdn 29 hF rfl rfl (by decide) fun a hF => ?_
      refine s_grdn 29 hF rfl rfl (by decide) fun a hF => ?_
      refine s_grdn 29 hF rfl rfl (by decide) fun a hF => ?_
      refine s_val hF (x_pick (b := true) rfl rfl) (by decide) fun a hF => ?_
      refine s_val hF (x_move rfl) (by decide) fun a hF => ?_
      refine s_grdn 34 hF rfl rfl (by decide) fun a hF => ?_
      refine s_grdn 34 hF rfl rfl (by decide) fun a hF => ?_
      refine s_grdn 34 hF rfl rfl (by decide) fun a hF => ?_
      refine s_val hF (x_pick (b := true) rfl rfl) (by decide) fun a hF => ?_
      refine s_end (hK12 _ _ ?_)
      refine wp_if hF rfl ?_
      refine wp_rs fun K13 hK13 => ?_
      refine s_callB [] hF (enters_of Try.func15 (by kernel_rfl) rfl) rfl (by decide) (awake15 w34) fun w36 a B37 hF => ?_
      have sB37 := B37.size
      have hB := hB.trans (B37.mono hB.size)
      have m3 := m3.old B37
      have m4 := m4.old B37
      refine s_val hF (x_assign rfl) (by decide) fun a hF => ?_
      refine s_end (hK13 _ _ ?_)
      refine wp_ret (then_ret (res_slot hF rfl rfl ⟨rfl, hB⟩))
    · refine s_grd 24 hF rfl rfl rfl ?_
      refine s_val hF (x_not rfl) (by decide) fun a hF => ?_
      refine s_val hF (x_pick (b := false) rfl rfl) (by decide) fun a hF => ?_
      refine s_val hF (x_move rfl) (by decide) fun a hF => ?_
      refine s_grd 29 hF rfl rfl rfl ?_
      refine s_val hF (x_ldW wide24 m4 rfl rfl) (by decide) fun a hF => ?_
      refine s_grd 29 hF rfl rfl rfl ?_
      refine s_callR (R := fun v w' => ∃ b, v = .bool b ∧ (b = true → q.lit)) [_] hF (enters_of Try.func31 (by kernel_rfl) rfl) rfl (by decide) (little31 (q.size + 1) q y w34 (by omega) (RS.below hB hq)) ?_
      rintro _ w38 a ⟨b31, rfl, hb31⟩ B39 hF
      have sB39 := B39.size
      have hB := hB.trans (B39.mono hB.size)
      have m3 := m3.old B39
      have m4 := m4.old B39
      cases b31
      · refine s_grd 29 hF rfl rfl rfl ?_
        refine s_val hF (x_not rfl) (by decide) fun a hF => ?_
        refine s_val hF (x_pick (b := false) rfl rfl) (by decide) fun a hF => ?_
        refine s_val hF (x_move rfl) (by decide) fun a hF => ?_
        refine s_grdn 34 hF rfl rfl (by decide) fun a hF => ?_
        refine s_grdn 34 hF rfl rfl (by decide) fun a hF => ?_
        refine s_grdn 34 hF rfl rfl (by decide) fun a hF => ?_
        refine s_val hF (x_pick (b := true) rfl rfl) (by decide) fun a hF => ?_
        refine s_end (hK12 _ _ ?_)
        refine wp_if hF rfl ?_
        refine wp_rs fun K14 hK14 => ?_
        refine s_callB [] hF (enters_of Try.func15 (by kernel_rfl) rfl) rfl (by decide) (awake15 w38) fun w40 a B41 hF => ?_
        have sB41 := B41.size
        have hB := hB.trans (B41.mono hB.size)
        have m3 := m3.old B41
        have m4 := m4.old B41
        refine s_val hF (x_assign rfl) (by decide) fun a hF => ?_
        refine s_end (hK14 _ _ ?_)
        refine wp_ret (then_ret (res_slot hF rfl rfl ⟨rfl, hB⟩))
      · refine s_grd 29 hF rfl rfl rfl ?_
        refine s_val hF (x_not rfl) (by decide) fun a hF => ?_
        refine s_val hF (x_pick (b := false) rfl rfl) (by decide) fun a hF => ?_
        refine s_val hF (x_move rfl) (by decide) fun a hF => ?_
        refine s_grd 34 hF rfl rfl rfl ?_
        refine s_val hF (x_move rfl) (by decide) fun a hF => ?_
        refine s_grd 34 hF rfl rfl rfl ?_
        refine s_val hF (x_len Try.underlying29 rfl) (by decide) fun a hF => ?_
        refine s_grd 34 hF rfl rfl rfl ?_
        refine s_val hF (x_gtr (b := false) (decide_eq_false (by omega)) rfl rfl) (by decide) fun a hF => ?_
        refine s_val hF (x_pick (b := false) rfl rfl) (by decide) fun a hF => ?_
        refine s_end (hK12 _ _ ?_)
        refine wp_if hF rfl ?_
        refine wp_skip (hK2 _ _ ?_)
        refine wp_seq_k fun K15 hK15 => ?_
        have lp := hb26 rfl
        have lq := hb31 rfl
        have tp := lit_total lp gp
        have tq := lit_total lq gq
        have np := p.tot_nn
        have nq := q.tot_nn
        refine wp_rs fun K16 hK16 => ?_
        refine s_val hF (x_move rfl) (by decide) fun a hF => ?_
        refine s_val hF (x_len Try.underlying29 rfl) (by decide) fun a hF => ?_
        refine s_val hF (x_move rfl) (by decide) fun a hF => ?_
        refine s_end (hK16 _ _ ?_)
        refine wp_block ?_
        refine wp_up vs.length (fun i a w => ∃ v' M, M.length = vs.length ∧ (∀ j, j < i → 0 ≤ M.getD j 0 ∧ M.getD j 0 ≤ 1073741824) ∧ (∀ j, i ≤ j → M.getD j 0 = vs.getD j 0) ∧ Rd w v' 1 M.length (ints M) ∧ Below w38.heap.size w38 w ∧ Fs 133 a [(42, .int .i64 (i : Int)), (41, .int .i64 (vs.length : Int)), (40, .slice av vs.length cv), (2, v'), (3, .pointer (some ⟨b3, 0, none⟩)), (4, .pointer (some ⟨b4, 0, none⟩))]) ⟨_, vs, rfl, (fun j h => absurd h (by omega)), (fun _ _ => rfl), hV.below hB, Below.refl _ _, hF.sub _ rfl⟩ ?_
        clear hF
        rintro i a wm hi ⟨vm, M, hMl, hM1, hM2, hM, hBS, hF⟩ K' hK'
        have m3 := m3.old hBS
        have m4 := m4.old hBS
        have hB := hB.trans (hBS.mono hB.size)
        have sB := hB.size
        have sBS := hBS.size
        have hm3 := m3.lt
        have hm4 := m4.lt
        have hBM := Below.refl wm.heap.size wm
        have sBM := hBM.size
        refine wp_rs fun K17 hK17 => ?_
        refine s_val hF (x_lss rfl rfl rfl) (by decide) fun a hF => ?_
        refine s_end (hK17 _ _ ?_)
        refine wp_seq_k fun K18 hK18 => ?_
        refine wp_iff hF rfl (fun hc43 => ?_) (fun hc43 => ?_)
        · obtain ⟨b, off, c, hve, hrow⟩ := rd_rowN hV (i := i) (by omega)
          cases hve
          obtain ⟨am, cm, rfl, hcm, _⟩ := hM.form
          refine wp_skip (hK18 _ _ ?_)
          refine wp_seq_k fun K19 hK19 => ?_
          refine wp_block ?_
          refine wp_rs fun K20 hK20 => ?_
          refine s_val hF (x_move rfl) (by decide) fun a hF => ?_
          refine s_val hF (x_ixa rfl rfl (m_ixs i Try.underlying29 el29.size rfl (by omega))) (by decide) fun a hF => ?_
          refine s_val hF (x_load rfl (m_load flat3 (hrow _ hB))) (by decide) fun a hF => ?_
          refine s_val hF (x_assign rfl) (by decide) fun a hF => ?_
          refine s_val hF (x_assign rfl) (by decide) fun a hF => ?_
          refine s_end (hK20 _ _ ?_)
          rcases (show vs.getD i 0 < 0 ∨ (0 ≤ vs.getD i 0 ∧ 1073741824 < vs.getD i 0) ∨ (0 ≤ vs.getD i 0 ∧ vs.getD i 0 ≤ 1073741824) by omega) with hz0 | hz0 | hz0
          · skip
            refine wp_rs fun K22 hK22 => ?_
            refine s_val hF (x_move rfl) (by decide) fun a hF => ?_
            refine s_val hF (x_lss (b := true) (decide_eq_true (by omega)) rfl rfl) (by decide) fun a hF => ?_
            refine s_val hF (x_move rfl) (by decide) fun a hF => ?_
            refine s_grdn 49 hF rfl rfl (by decide) fun a hF => ?_
            refine s_grdn 49 hF rfl rfl (by decide) fun a hF => ?_
            refine s_val hF (x_pick (b := true) rfl rfl) (by decide) fun a hF => ?_
            refine s_end (hK22 _ _ ?_)
            refine wp_if hF rfl ?_
            refine dk2_one (wm.heap.size) (wm.heap.size) (ops := regOps Try.f8 7) (N := 12) (by kernel_rfl) wide_orders (by kernel_rfl) fun w42 hw42 B43 hS K23 hK23 => ?_
            have zw42 : w42.heap.size = wm.heap.size := by rw [hw42]
            have sB43 := B43.size
            have hB := hB.trans (B43.mono hB.size)
            have hBS := hBS.trans (B43.mono hBS.size)
            have hBM := hBM.trans (B43.mono hBM.size)
            have m3 := m3.old B43
            have m4 := m4.old B43
            have m3_d := m3
            have m4_d := m4
            have hB_d := hB
            have hBS_d := hBS
            have hBM_d := hBM
            refine d_val 0 53 (op := (Go.Op.move (Go.Operand.tmp 2))) hF hS (by kernel_rfl) (fun W hW => x_move rfl) (by kernel_rfl) (by decide) fun a hF => ?_
            refine d_val 1 54 (op := (Go.Op.move (Go.Operand.tmp 7))) hF hS (by kernel_rfl) (fun W hW => x_move rfl) (by kernel_rfl) (by decide) fun a hF => ?_
            refine d_val 2 55 (op := (Go.Op.slice 29 (Go.Operand.tmp 53) none (some (Go.Operand.tmp 54)) none)) hF hS (by kernel_rfl) (fun W hW => x_slice (vlo := none) (vhi := some (.int .i64 (i : Int))) (vmx := none) rfl rfl rfl rfl (m_sliceUK i Try.underlying29 el29.size rfl (by omega))) (by kernel_rfl) (by decide) fun a hF => ?_
            refine d_val 6 59 (op := (Go.Op.move (Go.Operand.tmp 2))) hF hS (by kernel_rfl) (fun W hW => x_move rfl) (by kernel_rfl) (by decide) fun a hF => ?_
            refine d_val 7 60 (op := (Go.Op.move (Go.Operand.tmp 7))) hF hS (by kernel_rfl) (fun W hW => x_move rfl) (by kernel_rfl) (by decide) fun a hF => ?_
            refine d_val 8 61 (op := (Go.Op.binOp Go.BinOp.add 3 (Go.Operand.tmp 60) (Go.Operand.const (Go.Value.int Go.IntKind.i64 1)) 3)) hF hS (by kernel_rfl) (fun W hW => x_addn (i + 1) (by omega) (by omega) rfl rfl) (by kernel_rfl) (by decide) fun a hF => ?_
            refine d_val 9 62 (op := (Go.Op.slice 29 (Go.Operand.tmp 59) (some (Go.Operand.tmp 61)) none none)) hF hS (by kernel_rfl) (fun W hW => x_slice (vlo := some (.int .i64 ((i + 1 : Nat) : Int))) (vhi := none) (vmx := none) rfl rfl rfl rfl (m_sliceFK (i + 1) Try.underlying29 el29.size rfl (by omega))) (by kernel_rfl) (by decide) fun a hF => ?_
            refine d_two 3 4 (by kernel_rfl) ?_ ?_
            · refine d_op 3 (some 56) (Go.Op.call (Go.Call.mk (Go.Callee.builtin Go.Builtin.append) #[(Go.Operand.const (Go.Value.slice none 0 0)), (Go.Operand.tmp 55)] #[29, 29])) (by kernel_rfl) fun ty pos af => ?_
              refine s_appB (base := w42.heap.size) el29 hF (by decide) rfl rfl (World.ownsRow_nil _ _ _ _) ((hM.upto i (by omega)).below hBM) (by intro u hu; have hu := List.mem_of_mem_take hu; simp at hu; obtain ⟨_, _, rfl⟩ := hu; rfl) (by omega) (by simp only [maxLen]; omega) (Nat.le_refl _) fun v56 w44 a h56 B45 hF => ?_
              have sB45 := B45.size
              have hB := hB.trans (B45.mono hB.size)
              have hBS := hBS.trans (B45.mono hBS.size)
              have hBM := hBM.trans (B45.mono hBM.size)
              have m3 := m3.old B45
              have m4 := m4.old B45
              have hS := hS.below B45
              refine s_end ⟨hS, ?_⟩
              refine d_one 4 (some 57) (Go.Op.buildSlice 29 1 #[(0, (Go.Operand.const (Go.Value.int Go.IntKind.i64 0)))]) (by kernel_rfl) (by kernel_rfl) fun ty pos af => ?_
              refine s_litG [.int .i64 (0)] el29 hF (by decide) rfl (by simp [Value.cells]) rfl (by decide) (by decide) fun w46 bl a ebl ml B47 zbl hF => ?_
              have sB47 := B47.size
              have hB := hB.trans (B47.mono hB.size)
              have hBS := hBS.trans (B47.mono hBS.size)
              have hBM := hBM.trans (B47.mono hBM.size)
              have m3 := m3.old B47
              have m4 := m4.old B47
              have h56 := own_below h56 B47
              have hS := hS.below B47
              have ml : Blk w46 bl 3 [.int .i64 (0)] := by simpa [Value.cells] using ml
              refine s_end ⟨hS, ?_⟩
              refine d_one 5 (some 58) (Go.Op.call (Go.Call.mk (Go.Callee.builtin Go.Builtin.append) #[(Go.Operand.tmp 56), (Go.Operand.tmp 57)] #[29, 29])) (by kernel_rfl) (by kernel_rfl) fun ty pos af => ?_
              refine s_appB el29 hF (by decide) rfl rfl h56 (Rd.blk (n := 1) (k := 1) ml rfl) (by simp [Value.oneCell']) (by omega) (by simp only [maxLen]; omega) (by omega) fun v58 w48 a h58 B49 hF => ?_
              have sB49 := B49.size
              have hB := hB.trans (B49.mono (by omega))
              have hBS := hBS.trans (B49.mono (by omega))
              have hBM := hBM.trans (B49.mono (by omega))
              have m3 := m3.below B49 (by omega)
              have m4 := m4.below B49 (by omega)
              have hS := ktw_low hS (B49.mono (by omega))
              refine s_end ⟨hS, ?_⟩
              refine d_one 10 (some 63) (Go.Op.call (Go.Call.mk (Go.Callee.builtin Go.Builtin.append) #[(Go.Operand.tmp 58), (Go.Operand.tmp 62)] #[29, 29])) (by kernel_rfl) (by kernel_rfl) fun ty pos af => ?_
              refine s_appB el29 hF (by decide) rfl rfl h58 ((hM.from (i + 1) (by omega)).below hBM) (by intro u hu; have hu := List.mem_of_mem_drop hu; simp at hu; obtain ⟨_, _, rfl⟩ := hu; rfl) (by omega) (by simp only [maxLen]; omega) (by omega) fun v63 w50 a h63 B51 hF => ?_
              have sB51 := B51.size
              have hB := hB.trans (B51.mono (by omega))
              have hBS := hBS.trans (B51.mono (by omega))
              have hBM := hBM.trans (B51.mono (by omega))
              have m3 := m3.below B51 (by omega)
              have m4 := m4.below B51 (by omega)
              have hS := ktw_low hS (B51.mono (by omega))
              have hMn : Rd w50 v63 1 (M.set i 0).length (ints (M.set i 0)) := by have h := Rd.own h63; rw [set_cells (by omega), show 0 + i + 1 + (M.length - (i + 1)) = (M.set i 0).length by rw [List.length_set]; omega] at h; exact h
              have hBN := Below.refl w50.heap.size w50
              refine s_end ⟨hS, ?_⟩
              refine d_val 11 2 (op := (Go.Op.assign (Go.Operand.tmp 63))) hF hS (by kernel_rfl) (fun W hW => x_assign rfl) (by kernel_rfl) (by decide) fun a hF => ?_
              refine d_end (by kernel_rfl) (hK23 _ _ ?_)
              refine hK19 _ _ ?_
              refine wp_region_lit ?_
              refine s_val hF (x_addn (i + 1) (by omega) (by omega) rfl rfl) (by decide) fun a hF => ?_
              refine s_val hF (x_move rfl) (by decide) fun a hF => ?_
              refine s_end (hK' _ _ (by omega) ⟨_, M.set i 0, by rw [List.length_set]; exact hMl, (fun j hj => by rw [getD_set0]; split; (· omega); (· exact hM1 j (by omega))), (fun j hj => by rw [getD_set0, if_neg (by omega)]; exact hM2 j (by omega)), hMn.below hBN, hBS, hF.sub _ rfl⟩)
            · refine d_op 4 (some 57) (Go.Op.buildSlice 29 1 #[(0, (Go.Operand.const (Go.Value.int Go.IntKind.i64 0)))]) (by kernel_rfl) fun ty pos af => ?_
              refine s_litG [.int .i64 (0)] el29 hF (by decide) rfl (by simp [Value.cells]) rfl (by decide) (by decide) fun w52 bl a ebl ml B53 zbl hF => ?_
              have sB53 := B53.size
              have hB := hB.trans (B53.mono hB.size)
              have hBS := hBS.trans (B53.mono hBS.size)
              have hBM := hBM.trans (B53.mono hBM.size)
              have m3 := m3.old B53
              have m4 := m4.old B53
              have hS := hS.below B53
              have ml : Blk w52 bl 3 [.int .i64 (0)] := by simpa [Value.cells] using ml
              refine s_end ⟨hS, ?_⟩
              refine d_one 3 (some 56) (Go.Op.call (Go.Call.mk (Go.Callee.builtin Go.Builtin.append) #[(Go.Operand.const (Go.Value.slice none 0 0)), (Go.Operand.tmp 55)] #[29, 29])) (by kernel_rfl) (by kernel_rfl) fun ty pos af => ?_
              refine s_appB (base := w52.heap.size) el29 hF (by decide) rfl rfl (World.ownsRow_nil _ _ _ _) ((hM.upto i (by omega)).below hBM) (by intro u hu; have hu := List.mem_of_mem_take hu; simp at hu; obtain ⟨_, _, rfl⟩ := hu; rfl) (by omega) (by simp only [maxLen]; omega) (Nat.le_refl _) fun v56 w54 a h56 B55 hF => ?_
              have sB55 := B55.size
              have hB := hB.trans (B55.mono hB.size)
              have hBS := hBS.trans (B55.mono hBS.size)
              have hBM := hBM.trans (B55.mono hBM.size)
              have m3 := m3.old B55
              have m4 := m4.old B55
              have ml := ml.old B55
              have hS := hS.below B55
              refine s_end ⟨hS, ?_⟩
              refine d_one 5 (some 58) (Go.Op.call (Go.Call.mk (Go.Callee.builtin Go.Builtin.append) #[(Go.Operand.tmp 56), (Go.Operand.tmp 57)] #[29, 29])) (by kernel_rfl) (by kernel_rfl) fun ty pos af => ?_
              refine s_appB el29 hF (by decide) rfl rfl h56 (Rd.blk (n := 1) (k := 1) ml rfl) (by simp [Value.oneCell']) (by omega) (by simp only [maxLen]; omega) (by omega) fun v58 w56 a h58 B57 hF => ?_
              have sB57 := B57.size
              have hB := hB.trans (B57.mono (by omega))
              have hBS := hBS.trans (B57.mono (by omega))
              have hBM := hBM.trans (B57.mono (by omega))
              have m3 := m3.below B57 (by omega)
              have m4 := m4.below B57 (by omega)
              have hS := ktw_low hS (B57.mono (by omega))
              refine s_end ⟨hS, ?_⟩
              refine d_one 10 (some 63) (Go.Op.call (Go.Call.mk (Go.Callee.builtin Go.Builtin.append) #[(Go.Operand.tmp 58), (Go.Operand.tmp 62)] #[29, 29])) (by kernel_rfl) (by kernel_rfl) fun ty pos af => ?_
              refine s_appB el29 hF (by decide) rfl rfl h58 ((hM.from (i + 1) (by omega)).below hBM) (by intro u hu; have hu := List.mem_of_mem_drop hu; simp at hu; obtain ⟨_, _, rfl⟩ := hu; rfl) (by omega) (by simp only [maxLen]; omega) (by omega) fun v63 w58 a h63 B59 hF => ?_
              have sB59 := B59.size
              have hB := hB.trans (B59.mono (by omega))
              have hBS := hBS.trans (B59.mono (by omega))
              have hBM := hBM.trans (B59.mono (by omega))
              have m3 := m3.below B59 (by omega)
              have m4 := m4.below B59 (by omega)
              have hS := ktw_low hS (B59.mono (by omega))
              have hMn : Rd w58 v63 1 (M.set i 0).length (ints (M.set i 0)) := by have h := Rd.own h63; rw [set_cells (by omega), show 0 + i + 1 + (M.length - (i + 1)) = (M.set i 0).length by rw [List.length_set]; omega] at h; exact h
              have hBN := Below.refl w58.heap.size w58
              refine s_end ⟨hS, ?_⟩
              refine d_val 11 2 (op := (Go.Op.assign (Go.Operand.tmp 63))) hF hS (by kernel_rfl) (fun W hW => x_assign rfl) (by kernel_rfl) (by decide) fun a hF => ?_
              refine d_end (by kernel_rfl) (hK23 _ _ ?_)
              refine hK19 _ _ ?_
              refine wp_region_lit ?_
              refine s_val hF (x_addn (i + 1) (by omega) (by omega) rfl rfl) (by decide) fun a hF => ?_
              refine s_val hF (x_move rfl) (by decide) fun a hF => ?_
              refine s_end (hK' _ _ (by omega) ⟨_, M.set i 0, by rw [List.length_set]; exact hMl, (fun j hj => by rw [getD_set0]; split; (· omega); (· exact hM1 j (by omega))), (fun j hj => by rw [getD_set0, if_neg (by omega)]; exact hM2 j (by omega)), hMn.below hBN, hBS, hF.sub _ rfl⟩)
          · skip
            refine wp_rs fun K24 hK24 => ?_
            refine s_val hF (x_move rfl) (by decide) fun a hF => ?_
            refine s_val hF (x_lss (b := false) (decide_eq_false (by omega)) rfl rfl) (by decide) fun a hF => ?_
            refine s_val hF (x_move rfl) (by decide) fun a hF => ?_
            refine s_grd 49 hF rfl rfl rfl ?_
            refine s_val hF (x_move rfl) (by decide) fun a hF => ?_
            refine s_grd 49 hF rfl rfl rfl ?_
            refine s_val hF (x_gtr (b := true) (decide_eq_true (by omega)) rfl rfl) (by decide) fun a hF => ?_
            refine s_val hF (x_pick (b := false) rfl rfl) (by decide) fun a hF => ?_
            refine s_end (hK24 _ _ ?_)
            refine wp_if hF rfl ?_
            refine dk2_one (wm.heap.size) (wm.heap.size) (ops := regOps Try.f8 7) (N := 12) (by kernel_rfl) wide_orders (by kernel_rfl) fun w60 hw60 B61 hS K25 hK25 => ?_
            have zw60 : w60.heap.size = wm.heap.size := by rw [hw60]
            have sB61 := B61.size
            have hB := hB.trans (B61.mono hB.size)
            have hBS := hBS.trans (B61.mono hBS.size)
            have hBM := hBM.trans (B61.mono hBM.size)
            have m3 := m3.old B61
            have m4 := m4.old B61
            have m3_d := m3
            have m4_d := m4
            have hB_d := hB
            have hBS_d := hBS
            have hBM_d := hBM
            refine d_val 0 53 (op := (Go.Op.move (Go.Operand.tmp 2))) hF hS (by kernel_rfl) (fun W hW => x_move rfl) (by kernel_rfl) (by decide) fun a hF => ?_
            refine d_val 1 54 (op := (Go.Op.move (Go.Operand.tmp 7))) hF hS (by kernel_rfl) (fun W hW => x_move rfl) (by kernel_rfl) (by decide) fun a hF => ?_
            refine d_val 2 55 (op := (Go.Op.slice 29 (Go.Operand.tmp 53) none (some (Go.Operand.tmp 54)) none)) hF hS (by kernel_rfl) (fun W hW => x_slice (vlo := none) (vhi := some (.int .i64 (i : Int))) (vmx := none) rfl rfl rfl rfl (m_sliceUK i Try.underlying29 el29.size rfl (by omega))) (by kernel_rfl) (by decide) fun a hF => ?_
            refine d_val 6 59 (op := (Go.Op.move (Go.Operand.tmp 2))) hF hS (by kernel_rfl) (fun W hW => x_move rfl) (by kernel_rfl) (by decide) fun a hF => ?_
            refine d_val 7 60 (op := (Go.Op.move (Go.Operand.tmp 7))) hF hS (by kernel_rfl) (fun W hW => x_move rfl) (by kernel_rfl) (by decide) fun a hF => ?_
            refine d_val 8 61 (op := (Go.Op.binOp Go.BinOp.add 3 (Go.Operand.tmp 60) (Go.Operand.const (Go.Value.int Go.IntKind.i64 1)) 3)) hF hS (by kernel_rfl) (fun W hW => x_addn (i + 1) (by omega) (by omega) rfl rfl) (by kernel_rfl) (by decide) fun a hF => ?_
            refine d_val 9 62 (op := (Go.Op.slice 29 (Go.Operand.tmp 59) (some (Go.Operand.tmp 61)) none none)) hF hS (by kernel_rfl) (fun W hW => x_slice (vlo := some (.int .i64 ((i + 1 : Nat) : Int))) (vhi := none) (vmx := none) rfl rfl rfl rfl (m_sliceFK (i + 1) Try.underlying29 el29.size rfl (by omega))) (by kernel_rfl) (by decide) fun a hF => ?_
            refine d_two 3 4 (by kernel_rfl) ?_ ?_
            · refine d_op 3 (some 56) (Go.Op.call (Go.Call.mk (Go.Callee.builtin Go.Builtin.append) #[(Go.Operand.const (Go.Value.slice none 0 0)), (Go.Operand.tmp 55)] #[29, 29])) (by kernel_rfl) fun ty pos af => ?_
              refine s_appB (base := w60.heap.size) el29 hF (by decide) rfl rfl (World.ownsRow_nil _ _ _ _) ((hM.upto i (by omega)).below hBM) (by intro u hu; have hu := List.mem_of_mem_take hu; simp at hu; obtain ⟨_, _, rfl⟩ := hu; rfl) (by omega) (by simp only [maxLen]; omega) (Nat.le_refl _) fun v56 w62 a h56 B63 hF => ?_
              have sB63 := B63.size
              have hB := hB.trans (B63.mono hB.size)
              have hBS := hBS.trans (B63.mono hBS.size)
              have hBM := hBM.trans (B63.mono hBM.size)
              have m3 := m3.old B63
              have m4 := m4.old B63
              have hS := hS.below B63
              refine s_end ⟨hS, ?_⟩
              refine d_one 4 (some 57) (Go.Op.buildSlice 29 1 #[(0, (Go.Operand.const (Go.Value.int Go.IntKind.i64 0)))]) (by kernel_rfl) (by kernel_rfl) fun ty pos af => ?_
              refine s_litG [.int .i64 (0)] el29 hF (by decide) rfl (by simp [Value.cells]) rfl (by decide) (by decide) fun w64 bl a ebl ml B65 zbl hF => ?_
              have sB65 := B65.size
              have hB := hB.trans (B65.mono hB.size)
              have hBS := hBS.trans (B65.mono hBS.size)
              have hBM := hBM.trans (B65.mono hBM.size)
              have m3 := m3.old B65
              have m4 := m4.old B65
              have h56 := own_below h56 B65
              have hS := hS.below B65
              have ml : Blk w64 bl 3 [.int .i64 (0)] := by simpa [Value.cells] using ml
              refine s_end ⟨hS, ?_⟩
              refine d_one 5 (some 58) (Go.Op.call (Go.Call.mk (Go.Callee.builtin Go.Builtin.append) #[(Go.Operand.tmp 56), (Go.Operand.tmp 57)] #[29, 29])) (by kernel_rfl) (by kernel_rfl) fun ty pos af => ?_
              refine s_appB el29 hF (by decide) rfl rfl h56 (Rd.blk (n := 1) (k := 1) ml rfl) (by simp [Value.oneCell']) (by omega) (by simp only [maxLen]; omega) (by omega) fun v58 w66 a h58 B67 hF => ?_
              have sB67 := B67.size
              have hB := hB.trans (B67.mono (by omega))
              have hBS := hBS.trans (B67.mono (by omega))
              have hBM := hBM.trans (B67.mono (by omega))
              have m3 := m3.below B67 (by omega)
              have m4 := m4.below B67 (by omega)
              have hS := ktw_low hS (B67.mono (by omega))
              refine s_end ⟨hS, ?_⟩
              refine d_one 10 (some 63) (Go.Op.call (Go.Call.mk (Go.Callee.builtin Go.Builtin.append) #[(Go.Operand.tmp 58), (Go.Operand.tmp 62)] #[29, 29])) (by kernel_rfl) (by kernel_rfl) fun ty pos af => ?_
              refine s_appB el29 hF (by decide) rfl rfl h58 ((hM.from (i + 1) (by omega)).below hBM) (by intro u hu; have hu := List.mem_of_mem_drop hu; simp at hu; obtain ⟨_, _, rfl⟩ := hu; rfl) (by omega) (by simp only [maxLen]; omega) (by omega) fun v63 w68 a h63 B69 hF => ?_
              have sB69 := B69.size
              have hB := hB.trans (B69.mono (by omega))
              have hBS := hBS.trans (B69.mono (by omega))
              have hBM := hBM.trans (B69.mono (by omega))
              have m3 := m3.below B69 (by omega)
              have m4 := m4.below B69 (by omega)
              have hS := ktw_low hS (B69.mono (by omega))
              have hMn : Rd w68 v63 1 (M.set i 0).length (ints (M.set i 0)) := by have h := Rd.own h63; rw [set_cells (by omega), show 0 + i + 1 + (M.length - (i + 1)) = (M.set i 0).length by rw [List.length_set]; omega] at h; exact h
              have hBN := Below.refl w68.heap.size w68
              refine s_end ⟨hS, ?_⟩
              refine d_val 11 2 (op := (Go.Op.assign (Go.Operand.tmp 63))) hF hS (by kernel_rfl) (fun W hW => x_assign rfl) (by kernel_rfl) (by decide) fun a hF => ?_
              refine d_end (by kernel_rfl) (hK25 _ _ ?_)
              refine hK19 _ _ ?_
              refine wp_region_lit ?_
              refine s_val hF (x_addn (i + 1) (by omega) (by omega) rfl rfl) (by decide) fun a hF => ?_
              refine s_val hF (x_move rfl) (by decide) fun a hF => ?_
              refine s_end (hK' _ _ (by omega) ⟨_, M.set i 0, by rw [List.length_set]; exact hMl, (fun j hj => by rw [getD_set0]; split; (· omega); (· exact hM1 j (by omega))), (fun j hj => by rw [getD_set0, if_neg (by omega)]; exact hM2 j (by omega)), hMn.below hBN, hBS, hF.sub _ rfl⟩)
            · refine d_op 4 (some 57) (Go.Op.buildSlice 29 1 #[(0, (Go.Operand.const (Go.Value.int Go.IntKind.i64 0)))]) (by kernel_rfl) fun ty pos af => ?_
              refine s_litG [.int .i64 (0)] el29 hF (by decide) rfl (by simp [Value.cells]) rfl (by decide) (by decide) fun w70 bl a ebl ml B71 zbl hF => ?_
              have sB71 := B71.size
              have hB := hB.trans (B71.mono hB.size)
              have hBS := hBS.trans (B71.mono hBS.size)
              have hBM := hBM.trans (B71.mono hBM.size)
              have m3 := m3.old B71
              have m4 := m4.old B71
              have hS := hS.below B71
              have ml : Blk w70 bl 3 [.int .i64 (0)] := by simpa [Value.cells] using ml
              refine s_end ⟨hS, ?_⟩
              refine d_one 3 (some 56) (Go.Op.call (Go.Call.mk (Go.Callee.builtin Go.Builtin.append) #[(Go.Operand.const (Go.Value.slice none 0 0)), (Go.Operand.tmp 55)] #[29, 29])) (by kernel_rfl) (by kernel_rfl) fun ty pos af => ?_
              refine s_appB (base := w70.heap.size) el29 hF (by decide) rfl rfl (World.ownsRow_nil _ _ _ _) ((hM.upto i (by omega)).below hBM) (by intro u hu; have hu := List.mem_of_mem_take hu; simp at hu; obtain ⟨_, _, rfl⟩ := hu; rfl) (by omega) (by simp only [maxLen]; omega) (Nat.le_refl _) fun v56 w72 a h56 B73 hF => ?_
              have sB73 := B73.size
              have hB := hB.trans (B73.mono hB.size)
              have hBS := hBS.trans (B73.mono hBS.size)
              have hBM := hBM.trans (B73.mono hBM.size)
              have m3 := m3.old B73
              have m4 := m4.old B73
              have ml := ml.old B73
              have hS := hS.below B73
              refine s_end ⟨hS, ?_⟩
              refine d_one 5 (some 58) (Go.Op.call (Go.Call.mk (Go.Callee.builtin Go.Builtin.append) #[(Go.Operand.tmp 56), (Go.Operand.tmp 57)] #[29, 29])) (by kernel_rfl) (by kernel_rfl) fun ty pos af => ?_
              refine s_appB el29 hF (by decide) rfl rfl h56 (Rd.blk (n := 1) (k := 1) ml rfl) (by simp [Value.oneCell']) (by omega) (by simp only [maxLen]; omega) (by omega) fun v58 w74 a h58 B75 hF => ?_
              have sB75 := B75.size
              have hB := hB.trans (B75.mono (by omega))
              have hBS := hBS.trans (B75.mono (by omega))
              have hBM := hBM.trans (B75.mono (by omega))
              have m3 := m3.below B75 (by omega)
              have m4 := m4.below B75 (by omega)
              have hS := ktw_low hS (B75.mono (by omega))
              refine s_end ⟨hS, ?_⟩
              refine d_one 10 (some 63) (Go.Op.call (Go.Call.mk (Go.Callee.builtin Go.Builtin.append) #[(Go.Operand.tmp 58), (Go.Operand.tmp 62)] #[29, 29])) (by kernel_rfl) (by kernel_rfl) fun ty pos af => ?_
              refine s_appB el29 hF (by decide) rfl rfl h58 ((hM.from (i + 1) (by omega)).below hBM) (by intro u hu; have hu := List.mem_of_mem_drop hu; simp at hu; obtain ⟨_, _, rfl⟩ := hu; rfl) (by omega) (by simp only [maxLen]; omega) (by omega) fun v63 w76 a h63 B77 hF => ?_
              have sB77 := B77.size
              have hB := hB.trans (B77.mono (by omega))
              have hBS := hBS.trans (B77.mono (by omega))
              have hBM := hBM.trans (B77.mono (by omega))
              have m3 := m3.below B77 (by omega)
              have m4 := m4.below B77 (by omega)
              have hS := ktw_low hS (B77.mono (by omega))
              have hMn : Rd w76 v63 1 (M.set i 0).length (ints (M.set i 0)) := by have h := Rd.own h63; rw [set_cells (by omega), show 0 + i + 1 + (M.length - (i + 1)) = (M.set i 0).length by rw [List.length_set]; omega] at h; exact h
              have hBN := Below.refl w76.heap.size w76
              refine s_end ⟨hS, ?_⟩
              refine d_val 11 2 (op := (Go.Op.assign (Go.Operand.tmp 63))) hF hS (by kernel_rfl) (fun W hW => x_assign rfl) (by kernel_rfl) (by decide) fun a hF => ?_
              refine d_end (by kernel_rfl) (hK25 _ _ ?_)
              refine hK19 _ _ ?_
              refine wp_region_lit ?_
              refine s_val hF (x_addn (i + 1) (by omega) (by omega) rfl rfl) (by decide) fun a hF => ?_
              refine s_val hF (x_move rfl) (by decide) fun a hF => ?_
              refine s_end (hK' _ _ (by omega) ⟨_, M.set i 0, by rw [List.length_set]; exact hMl, (fun j hj => by rw [getD_set0]; split; (· omega); (· exact hM1 j (by omega))), (fun j hj => by rw [getD_set0, if_neg (by omega)]; exact hM2 j (by omega)), hMn.below hBN, hBS, hF.sub _ rfl⟩)
          · skip
            refine wp_rs fun K26 hK26 => ?_
            refine s_val hF (x_move rfl) (by decide) fun a hF => ?_
            refine s_val hF (x_lss (b := false) (decide_eq_false (by omega)) rfl rfl) (by decide) fun a hF => ?_
            refine s_val hF (x_move rfl) (by decide) fun a hF => ?_
            refine s_grd 49 hF rfl rfl rfl ?_
            refine s_val hF (x_move rfl) (by decide) fun a hF => ?_
            refine s_grd 49 hF rfl rfl rfl ?_
            refine s_val hF (x_gtr (b := false) (decide_eq_false (by omega)) rfl rfl) (by decide) fun a hF => ?_
            refine s_val hF (x_pick (b := false) rfl rfl) (by decide) fun a hF => ?_
            refine s_end (hK26 _ _ ?_)
            refine wp_if hF rfl ?_
            refine wp_skip (hK19 _ _ ?_)
            refine wp_region_lit ?_
            refine s_val hF (x_addn (i + 1) (by omega) (by omega) rfl rfl) (by decide) fun a hF => ?_
            refine s_val hF (x_move rfl) (by decide) fun a hF => ?_
            refine s_end (hK' _ _ (by omega) ⟨_, M, hMl, (fun j hj => by rcases Nat.lt_succ_iff_lt_or_eq.1 hj with h | rfl; (· exact hM1 j h); (· rw [hM2 _ (Nat.le_refl _)]; omega)), (fun j hj => hM2 j (by omega)), hM.below hBM, hBS, hF.sub _ rfl⟩)
        · have hi2 : i = vs.length := by omega
          refine wp_exit (hK15 _ _ ?_)
          refine dk2_seq (wm.heap.size) (wm.heap.size) (ops := regOps Try.f8 9) (N := 8) (by kernel_rfl) wide_orders (by kernel_rfl) fun w78 hw78 B79 hS K27 hK27 => ?_
          have zw78 : w78.heap.size = wm.heap.size := by rw [hw78]
          have sB79 := B79.size
          have hB := hB.trans (B79.mono hB.size)
          have hBS := hBS.trans (B79.mono hBS.size)
          have hBM := hBM.trans (B79.mono hBM.size)
          have m3 := m3.old B79
          have m4 := m4.old B79
          have m3_d := m3
          have m4_d := m4
          have hB_d := hB
          have hBS_d := hBS
          have hBM_d := hBM
          refine d_val 0 65 (op := (Go.Op.load 24 (Go.Operand.tmp 3))) hF hS (by kernel_rfl) (fun W hW => x_ldW wide24 (m3_d.k2 hW (by omega)) rfl rfl) (by kernel_rfl) (by decide) fun a hF => ?_
          refine d_val 1 66 (op := (Go.Op.move (Go.Operand.tmp 2))) hF hS (by kernel_rfl) (fun W hW => x_move rfl) (by kernel_rfl) (by decide) fun a hF => ?_
          refine d_val 3 68 (op := (Go.Op.load 24 (Go.Operand.tmp 4))) hF hS (by kernel_rfl) (fun W hW => x_ldW wide24 (m4_d.k2 hW (by omega)) rfl rfl) (by kernel_rfl) (by decide) fun a hF => ?_
          refine d_val 4 69 (op := (Go.Op.move (Go.Operand.tmp 2))) hF hS (by kernel_rfl) (fun W hW => x_move rfl) (by kernel_rfl) (by decide) fun a hF => ?_
          refine d_one 2 (some 67) (Go.Op.call (Go.Call.mk (Go.Callee.value (Go.Operand.func 29)) #[(Go.Operand.tmp 65), (Go.Operand.tmp 66)] #[24, 29])) (by kernel_rfl) (by kernel_rfl) fun ty pos af => ?_
          refine s_callB [_, _] hF (enters_of Try.func29 (by kernel_rfl) rfl) rfl (by decide) (valS (RS.below hB hp) gp (hM.below hBM) (by omega)) fun w80 a B81 hF => ?_
          have sB81 := B81.size
          have hB := hB.trans (B81.mono hB.size)
          have hBS := hBS.trans (B81.mono hBS.size)
          have hBM := hBM.trans (B81.mono hBM.size)
          have m3 := m3.old B81
          have m4 := m4.old B81
          have hS := hS.below B81
          refine s_end ⟨hS, ?_⟩
          refine d_one 5 (some 70) (Go.Op.call (Go.Call.mk (Go.Callee.value (Go.Operand.func 29)) #[(Go.Operand.tmp 68), (Go.Operand.tmp 69)] #[24, 29])) (by kernel_rfl) (by kernel_rfl) fun ty pos af => ?_
          refine s_callB [_, _] hF (enters_of Try.func29 (by kernel_rfl) rfl) rfl (by decide) (valS (RS.below hB hq) gq (hM.below hBM) (by omega)) fun w82 a B83 hF => ?_
          have sB83 := B83.size
          have hB := hB.trans (B83.mono hB.size)
          have hBS := hBS.trans (B83.mono hBS.size)
          have hBM := hBM.trans (B83.mono hBM.size)
          have m3 := m3.old B83
          have m4 := m4.old B83
          have hS := hS.below B83
          refine s_end ⟨hS, ?_⟩
          refine d_val 6 9 (op := (Go.Op.assign (Go.Operand.tmp 67))) hF hS (by kernel_rfl) (fun W hW => x_assign rfl) (by kernel_rfl) (by decide) fun a hF => ?_
          refine d_val 7 10 (op := (Go.Op.assign (Go.Operand.tmp 70))) hF hS (by kernel_rfl) (fun W hW => x_assign rfl) (by kernel_rfl) (by decide) fun a hF => ?_
          refine d_end (by kernel_rfl) (hK27 _ _ ?_)
          refine wp_rs fun K28 hK28 => ?_
          refine s_val hF (x_ldW wide24 m3 rfl rfl) (by decide) fun a hF => ?_
          refine s_callR (R := fun v w' => ∃ z, v = lv z ∧ RS w' (levF (nfC p) (nfK p)) z) [_] hF (enters_of Try.func19 (by kernel_rfl) rfl) rfl (by decide) (redS (RS.below hB hp) gp) ?_
          rintro _ w84 a ⟨z1, rfl, hz⟩ B85 hF
          have sB85 := B85.size
          have hB := hB.trans (B85.mono hB.size)
          have hBS := hBS.trans (B85.mono hBS.size)
          have hBM := hBM.trans (B85.mono hBM.size)
          have m3 := m3.old B85
          have m4 := m4.old B85
          have h1z := hz.one1
          have hBm := Below.refl w84.heap.size w84
          refine s_alloc hF (by decide) zero24 fun w86 b11 a eb11 m11 B87 zb11 hF => ?_
          have sB87 := B87.size
          have hB := hB.trans (B87.mono hB.size)
          have hBS := hBS.trans (B87.mono hBS.size)
          have hBM := hBM.trans (B87.mono hBM.size)
          have hBm := hBm.trans (B87.mono hBm.size)
          have m3 := m3.old B87
          have m4 := m4.old B87
          refine s_putW hF rfl rfl (size_wide wide24) m11 rfl (one_lc h1z) fun w88 m11 o89 => ?_
          have so89 := o89.size
          have hB := hB.trans (o89.below (by omega))
          have hBS := hBS.trans (o89.below (by omega))
          have hBM := hBM.trans (o89.below (by omega))
          have hBm := hBm.trans (o89.below (by omega))
          have m3 := m3.only o89 (by omega)
          have m4 := m4.only o89 (by omega)
          refine s_end (hK28 _ _ ?_)
          refine wp_seq_k fun K29 hK29 => ?_
          have key29 : ∀ (a : Act) (w : World), Below w0.heap.size w0 w → Blk w b3 24 (lc x) → Blk w b4 24 (lc y) → Fs 133 a [(3, .pointer (some ⟨b3, 0, none⟩)), (4, .pointer (some ⟨b4, 0, none⟩))] → K29 a w := by
            intro a w hB m3 m4 hF
            have sB := hB.size
            have hm3 := m3.lt
            have hm4 := m4.lt
            refine hK29 _ _ ?_
            refine wp_seq_k fun K30 hK30 => ?_
            rcases Classical.em (leS p q) with h1 | h1
            · skip
              refine wp_rs fun K32 hK32 => ?_
              refine s_val hF (x_ldW wide24 m3 rfl rfl) (by decide) fun a hF => ?_
              refine s_val hF (x_ldW wide24 m4 rfl rfl) (by decide) fun a hF => ?_
              refine s_callB [_, _] hF (enters_of Try.func25 (by kernel_rfl) rfl) rfl (by decide) (leqS (RS.below hB hp) (RS.below hB hq) gp gq) fun w90 a B91 hF => ?_
              have sB91 := B91.size
              have hB := hB.trans (B91.mono hB.size)
              have m3 := m3.old B91
              have m4 := m4.old B91
              rw [decide_eq_true h1] at hF
              refine s_end (hK32 _ _ ?_)
              refine wp_if hF rfl ?_
              refine wp_rs fun K33 hK33 => ?_
              refine s_callB [] hF (enters_of Try.func15 (by kernel_rfl) rfl) rfl (by decide) (awake15 w90) fun w92 a B93 hF => ?_
              have sB93 := B93.size
              have hB := hB.trans (B93.mono hB.size)
              have m3 := m3.old B93
              have m4 := m4.old B93
              refine s_val hF (x_assign rfl) (by decide) fun a hF => ?_
              refine s_end (hK33 _ _ ?_)
              refine wp_ret (then_ret (res_slot hF rfl rfl ⟨rfl, hB⟩))
            · skip
              refine wp_rs fun K34 hK34 => ?_
              refine s_val hF (x_ldW wide24 m3 rfl rfl) (by decide) fun a hF => ?_
              refine s_val hF (x_ldW wide24 m4 rfl rfl) (by decide) fun a hF => ?_
              refine s_callB [_, _] hF (enters_of Try.func25 (by kernel_rfl) rfl) rfl (by decide) (leqS (RS.below hB hp) (RS.below hB hq) gp gq) fun w94 a B95 hF => ?_
              have sB95 := B95.size
              have hB := hB.trans (B95.mono hB.size)
              have m3 := m3.old B95
              have m4 := m4.old B95
              rw [decide_eq_false h1] at hF
              refine s_end (hK34 _ _ ?_)
              refine wp_if hF rfl ?_
              refine wp_skip (hK30 _ _ ?_)
              refine wp_rs fun K35 hK35 => ?_
              refine s_val hF (x_ldW wide24 m3 rfl rfl) (by decide) fun a hF => ?_
              have hB9 := hB
              refine s_callR (R := fun v w' => ∃ c vk ks, v = .tuple #[.int .i64 c, vk] ∧ FF w94 x la w' c vk ks) [_] hF (enters_of Try.func16 (by kernel_rfl) rfl) rfl (by decide) (norm16 x la w94 (hLa.old hB)) ?_
              rintro _ w96 a ⟨c, vk, ks, rfl, hf⟩ B97 hF
              have sB97 := B97.size
              have hB := hB.trans (B97.mono hB.size)
              have m3 := m3.old B97
              have m4 := m4.old B97
              obtain ⟨rfl, rfl⟩ := hf.2.2 p (RS.below hB9 hp) gp
              obtain ⟨ak, ck, rfl, _⟩ := hf.1.form
              have hkl := nfK_len p gp
              refine s_val hF (x_move rfl) (by decide) fun a hF => ?_
              refine s_val hF (x_ext rfl rfl) (by decide) fun a hF => ?_
              refine s_val hF (x_ext rfl rfl) (by decide) fun a hF => ?_
              refine s_val hF (x_assign rfl) (by decide) fun a hF => ?_
              refine s_val hF (x_assign rfl) (by decide) fun a hF => ?_
              refine s_end (hK35 _ _ ?_)
              refine wp_seq_k fun K36 hK36 => ?_
              refine wp_rs fun K37 hK37 => ?_
              refine s_val hF (x_assign rfl) (by decide) fun a hF => ?_
              refine s_end (hK37 _ _ ?_)
              refine wp_block ?_
              have hB0 := hB
              have m30 := m3
              have m40 := m4
              refine wp_up ((nfK p).length + 1) (fun t a w => (1 ≤ t → val p (fun _ => 0) ≤ val q (fun _ => 0)) ∧ (∀ j, j + 1 < t → val p (oneAt j) ≤ val q (oneAt j)) ∧ Below w96.heap.size w96 w ∧ Fs 133 a [(14, .int .i64 ((t : Int) - 1)), (13, .slice ak (nfK p).length ck), (3, .pointer (some ⟨b3, 0, none⟩)), (4, .pointer (some ⟨b4, 0, none⟩))]) ⟨(fun h => absurd h (by omega)), (fun j h => absurd h (by omega)), Below.refl _ _, hF.sub _ rfl⟩ ?_
              clear hF
              rintro t a wt ht0 ⟨h0, h9, hBL, hF⟩ K' hK'
              have m3 := m30.old hBL
              have m4 := m40.old hBL
              have hB := hB0.trans (hBL.mono hB0.size)
              have sB := hB.size
              have sBL := hBL.size
              have hm3 := m3.lt
              have hm4 := m4.lt
              refine wp_seq_k fun K38 hK38 => ?_
              refine wp_rs fun K39 hK39 => ?_
              refine s_val hF (x_move rfl) (by decide) fun a hF => ?_
              refine s_val hF (x_move rfl) (by decide) fun a hF => ?_
              refine s_val hF (x_len Try.underlying29 rfl) (by decide) fun a hF => ?_
              refine s_val hF (x_lss (b := decide (t < (nfK p).length + 1)) (decide_eq_decide.2 (by omega)) rfl rfl) (by decide) fun a hF => ?_
              refine s_end (hK39 _ _ ?_)
              refine wp_iff hF rfl (fun hc114 => ?_) (fun hc114 => ?_)
              · refine wp_skip (hK38 _ _ ?_)
                refine wp_seq_k fun K40 hK40 => ?_
                refine wp_block ?_
                refine wp_rs fun K41 hK41 => ?_
                refine s_val hF (x_move rfl) (by decide) fun a hF => ?_
                refine s_val hF (x_len Try.underlying29 rfl) (by decide) fun a hF => ?_
                refine s_mk29 (nfK p).length hF (by decide) rfl rfl (by omega) rfl rfl fun w98 b15 a eb15 m15 B99 zb15 hF => ?_
                have sB99 := B99.size
                have hB := hB.trans (B99.mono hB.size)
                have hBL := hBL.trans (B99.mono hBL.size)
                have m3 := m3.old B99
                have m4 := m4.old B99
                refine s_val hF (x_assign rfl) (by decide) fun a hF => ?_
                refine s_end (hK41 _ _ ?_)
                refine wp_seq_k fun K42 hK42 => ?_
                rcases Nat.eq_zero_or_pos t with ht | ht
                · skip
                  refine wp_rs fun K44 hK44 => ?_
                  refine s_val hF (x_move rfl) (by decide) fun a hF => ?_
                  refine s_val hF (x_geq (b := false) (decide_eq_false (by omega)) rfl rfl) (by decide) fun a hF => ?_
                  refine s_end (hK44 _ _ ?_)
                  refine wp_if hF rfl ?_
                  refine wp_skip (hK42 _ _ ?_)
                  obtain ⟨R, hR0⟩ : ∃ R, R = List.replicate (nfK p).length (0 : Int) := ⟨_, rfl⟩
                  have hRl : R.length = (nfK p).length := by rw [hR0]; simp
                  have hrho : rho R = fun _ => 0 := by rw [hR0]; exact rho_zero _
                  have m15 : Blk w98 b15 3 (ints R) := by rw [hR0, ints_rep]; exact m15
                  have hR : Rd w98 (.slice (some ⟨b15, 0, none⟩) (nfK p).length (nfK p).length) 1 R.length (ints R) := by rw [hRl]; exact Rd.blk m15 (by simp [hRl])
                  have hBR := Below.refl w98.heap.size w98
                  refine dk2_seq (w98.heap.size) (w98.heap.size) (ops := regOps Try.f8 22) (N := 7) (by kernel_rfl) wide_orders (by kernel_rfl) fun w100 hw100 B101 hS K45 hK45 => ?_
                  have zw100 : w100.heap.size = w98.heap.size := by rw [hw100]
                  have sB101 := B101.size
                  have hB := hB.trans (B101.mono hB.size)
                  have hBL := hBL.trans (B101.mono hBL.size)
                  have hBR := hBR.trans (B101.mono hBR.size)
                  have m3 := m3.old B101
                  have m4 := m4.old B101
                  have m15 := m15.old B101
                  have m3_d := m3
                  have m4_d := m4
                  have m15_d := m15
                  have hB_d := hB
                  have hBL_d := hBL
                  have hBR_d := hBR
                  refine d_val 0 125 (op := (Go.Op.load 24 (Go.Operand.tmp 3))) hF hS (by kernel_rfl) (fun W hW => x_ldW wide24 (m3_d.k2 hW (by omega)) rfl rfl) (by kernel_rfl) (by decide) fun a hF => ?_
                  refine d_val 1 126 (op := (Go.Op.move (Go.Operand.tmp 15))) hF hS (by kernel_rfl) (fun W hW => x_move rfl) (by kernel_rfl) (by decide) fun a hF => ?_
                  refine d_val 3 128 (op := (Go.Op.load 24 (Go.Operand.tmp 4))) hF hS (by kernel_rfl) (fun W hW => x_ldW wide24 (m4_d.k2 hW (by omega)) rfl rfl) (by kernel_rfl) (by decide) fun a hF => ?_
                  refine d_val 4 129 (op := (Go.Op.move (Go.Operand.tmp 15))) hF hS (by kernel_rfl) (fun W hW => x_move rfl) (by kernel_rfl) (by decide) fun a hF => ?_
                  refine d_one 2 (some 127) (Go.Op.call (Go.Call.mk (Go.Callee.value (Go.Operand.func 29)) #[(Go.Operand.tmp 125), (Go.Operand.tmp 126)] #[24, 29])) (by kernel_rfl) (by kernel_rfl) fun ty pos af => ?_
                  refine s_callB [_, _] hF (enters_of Try.func29 (by kernel_rfl) rfl) rfl (by decide) (valS (RS.below hB hp) gp (hR.below hBR) (by omega)) fun w102 a B103 hF => ?_
                  have sB103 := B103.size
                  have hB := hB.trans (B103.mono hB.size)
                  have hBL := hBL.trans (B103.mono hBL.size)
                  have hBR := hBR.trans (B103.mono hBR.size)
                  have m3 := m3.old B103
                  have m4 := m4.old B103
                  have m15 := m15.old B103
                  have hS := hS.below B103
                  refine s_end ⟨hS, ?_⟩
                  refine d_one 5 (some 130) (Go.Op.call (Go.Call.mk (Go.Callee.value (Go.Operand.func 29)) #[(Go.Operand.tmp 128), (Go.Operand.tmp 129)] #[24, 29])) (by kernel_rfl) (by kernel_rfl) fun ty pos af => ?_
                  refine s_callB [_, _] hF (enters_of Try.func29 (by kernel_rfl) rfl) rfl (by decide) (valS (RS.below hB hq) gq (hR.below hBR) (by omega)) fun w104 a B105 hF => ?_
                  have sB105 := B105.size
                  have hB := hB.trans (B105.mono hB.size)
                  have hBL := hBL.trans (B105.mono hBL.size)
                  have hBR := hBR.trans (B105.mono hBR.size)
                  have m3 := m3.old B105
                  have m4 := m4.old B105
                  have m15 := m15.old B105
                  have hS := hS.below B105
                  refine s_end ⟨hS, ?_⟩
                  refine d_val 6 131 (op := (Go.Op.binOp Go.BinOp.gtr 3 (Go.Operand.tmp 127) (Go.Operand.tmp 130) 3)) hF hS (by kernel_rfl) (fun W hW => x_gtr rfl rfl rfl) (by kernel_rfl) (by decide) fun a hF => ?_
                  refine d_end (by kernel_rfl) (hK45 _ _ ?_)
                  refine wp_iff hF rfl (fun hc131 => ?_) (fun hc131 => ?_)
                  · refine wp_rs fun K46 hK46 => ?_
                    refine s_callB [] hF (enters_of Try.func15 (by kernel_rfl) rfl) rfl (by decide) (awake15 w104) fun w106 a B107 hF => ?_
                    have sB107 := B107.size
                    have hB := hB.trans (B107.mono hB.size)
                    have hBL := hBL.trans (B107.mono hBL.size)
                    have hBR := hBR.trans (B107.mono hBR.size)
                    have m3 := m3.old B107
                    have m4 := m4.old B107
                    have m15 := m15.old B107
                    refine s_val hF (x_assign rfl) (by decide) fun a hF => ?_
                    refine s_end (hK46 _ _ ?_)
                    refine wp_ret (inb_ret (then_ret (then_ret (inb_ret (then_ret (res_slot hF rfl rfl ⟨rfl, hB⟩))))))
                  · refine wp_skip (hK40 _ _ ?_)
                    refine wp_region_lit ?_
                    refine s_val hF (x_move rfl) (by decide) fun a hF => ?_
                    refine s_val hF (x_addr (((t + 1 : Nat) : Int) - 1) (by omega) (by omega) (by omega) rfl rfl) (by decide) fun a hF => ?_
                    refine s_val hF (x_assign rfl) (by decide) fun a hF => ?_
                    refine s_end (hK' _ _ (by omega) ⟨(fun _ => by rw [hrho] at hc131; omega), (fun j hj => absurd hj (by omega)), hBL, hF.sub _ rfl⟩)
                · skip
                  refine wp_rs fun K47 hK47 => ?_
                  refine s_val hF (x_move rfl) (by decide) fun a hF => ?_
                  refine s_val hF (x_geq (b := true) (decide_eq_true (by omega)) rfl rfl) (by decide) fun a hF => ?_
                  refine s_end (hK47 _ _ ?_)
                  refine wp_if hF rfl ?_
                  refine wp_region_lit ?_
                  refine s_val hF (x_move rfl) (by decide) fun a hF => ?_
                  refine s_val hF (x_move rfl) (by decide) fun a hF => ?_
                  refine s_val hF (x_ixa rfl rfl (m_ixs0 (t - 1) Try.underlying29 el29.size (by omega) (by omega))) (by decide) fun a hF => ?_
                  refine s_put hF rfl rfl flat3 m15 (by rw [List.length_replicate]; omega) rfl fun w108 m15 o109 => ?_
                  have so109 := o109.size
                  have hB := hB.trans (o109.below (by omega))
                  have hBL := hBL.trans (o109.below (by omega))
                  have m3 := m3.only o109 (by omega)
                  have m4 := m4.only o109 (by omega)
                  refine s_end (hK42 _ _ ?_)
                  obtain ⟨R, hR0⟩ : ∃ R, R = (List.replicate (nfK p).length (0 : Int)).set (t - 1) 34359738368 := ⟨_, rfl⟩
                  have hRl : R.length = (nfK p).length := by rw [hR0]; simp
                  have hrho : rho R = oneAt (t - 1) := by rw [hR0]; exact rho_one (by omega)
                  have m15 : Blk w108 b15 3 (ints R) := by rw [hR0, ints_set, ints_rep]; exact m15
                  have hR : Rd w108 (.slice (some ⟨b15, 0, none⟩) (nfK p).length (nfK p).length) 1 R.length (ints R) := by rw [hRl]; exact Rd.blk m15 (by simp [hRl])
                  have hBR := Below.refl w108.heap.size w108
                  refine dk2_seq (w108.heap.size) (w108.heap.size) (ops := regOps Try.f8 22) (N := 7) (by kernel_rfl) wide_orders (by kernel_rfl) fun w110 hw110 B111 hS K48 hK48 => ?_
                  have zw110 : w110.heap.size = w108.heap.size := by rw [hw110]
                  have sB111 := B111.size
                  have hB := hB.trans (B111.mono hB.size)
                  have hBL := hBL.trans (B111.mono hBL.size)
                  have hBR := hBR.trans (B111.mono hBR.size)
                  have m3 := m3.old B111
                  have m4 := m4.old B111
                  have m15 := m15.old B111
                  have m3_d := m3
                  have m4_d := m4
                  have m15_d := m15
                  have hB_d := hB
                  have hBL_d := hBL
                  have hBR_d := hBR
                  refine d_val 0 125 (op := (Go.Op.load 24 (Go.Operand.tmp 3))) hF hS (by kernel_rfl) (fun W hW => x_ldW wide24 (m3_d.k2 hW (by omega)) rfl rfl) (by kernel_rfl) (by decide) fun a hF => ?_
                  refine d_val 1 126 (op := (Go.Op.move (Go.Operand.tmp 15))) hF hS (by kernel_rfl) (fun W hW => x_move rfl) (by kernel_rfl) (by decide) fun a hF => ?_
                  refine d_val 3 128 (op := (Go.Op.load 24 (Go.Operand.tmp 4))) hF hS (by kernel_rfl) (fun W hW => x_ldW wide24 (m4_d.k2 hW (by omega)) rfl rfl) (by kernel_rfl) (by decide) fun a hF => ?_
                  refine d_val 4 129 (op := (Go.Op.move (Go.Operand.tmp 15))) hF hS (by kernel_rfl) (fun W hW => x_move rfl) (by kernel_rfl) (by decide) fun a hF => ?_
                  refine d_one 2 (some 127) (Go.Op.call (Go.Call.mk (Go.Callee.value (Go.Operand.func 29)) #[(Go.Operand.tmp 125), (Go.Operand.tmp 126)] #[24, 29])) (by kernel_rfl) (by kernel_rfl) fun ty pos af => ?_
                  refine s_callB [_, _] hF (enters_of Try.func29 (by kernel_rfl) rfl) rfl (by decide) (valS (RS.below hB hp) gp (hR.below hBR) (by omega)) fun w112 a B113 hF => ?_
                  have sB113 := B113.size
                  have hB := hB.trans (B113.mono hB.size)
                  have hBL := hBL.trans (B113.mono hBL.size)
                  have hBR := hBR.trans (B113.mono hBR.size)
                  have m3 := m3.old B113
                  have m4 := m4.old B113
                  have m15 := m15.old B113
                  have hS := hS.below B113
                  refine s_end ⟨hS, ?_⟩
                  refine d_one 5 (some 130) (Go.Op.call (Go.Call.mk (Go.Callee.value (Go.Operand.func 29)) #[(Go.Operand.tmp 128), (Go.Operand.tmp 129)] #[24, 29])) (by kernel_rfl) (by kernel_rfl) fun ty pos af => ?_
                  refine s_callB [_, _] hF (enters_of Try.func29 (by kernel_rfl) rfl) rfl (by decide) (valS (RS.below hB hq) gq (hR.below hBR) (by omega)) fun w114 a B115 hF => ?_
                  have sB115 := B115.size
                  have hB := hB.trans (B115.mono hB.size)
                  have hBL := hBL.trans (B115.mono hBL.size)
                  have hBR := hBR.trans (B115.mono hBR.size)
                  have m3 := m3.old B115
                  have m4 := m4.old B115
                  have m15 := m15.old B115
                  have hS := hS.below B115
                  refine s_end ⟨hS, ?_⟩
                  refine d_val 6 131 (op := (Go.Op.binOp Go.BinOp.gtr 3 (Go.Operand.tmp 127) (Go.Operand.tmp 130) 3)) hF hS (by kernel_rfl) (fun W hW => x_gtr rfl rfl rfl) (by kernel_rfl) (by decide) fun a hF => ?_
                  refine d_end (by kernel_rfl) (hK48 _ _ ?_)
                  refine wp_iff hF rfl (fun hc131 => ?_) (fun hc131 => ?_)
                  · refine wp_rs fun K49 hK49 => ?_
                    refine s_callB [] hF (enters_of Try.func15 (by kernel_rfl) rfl) rfl (by decide) (awake15 w114) fun w116 a B117 hF => ?_
                    have sB117 := B117.size
                    have hB := hB.trans (B117.mono hB.size)
                    have hBL := hBL.trans (B117.mono hBL.size)
                    have hBR := hBR.trans (B117.mono hBR.size)
                    have m3 := m3.old B117
                    have m4 := m4.old B117
                    have m15 := m15.old B117
                    refine s_val hF (x_assign rfl) (by decide) fun a hF => ?_
                    refine s_end (hK49 _ _ ?_)
                    refine wp_ret (inb_ret (then_ret (then_ret (inb_ret (then_ret (res_slot hF rfl rfl ⟨rfl, hB⟩))))))
                  · refine wp_skip (hK40 _ _ ?_)
                    refine wp_region_lit ?_
                    refine s_val hF (x_move rfl) (by decide) fun a hF => ?_
                    refine s_val hF (x_addr (((t + 1 : Nat) : Int) - 1) (by omega) (by omega) (by omega) rfl rfl) (by decide) fun a hF => ?_
                    refine s_val hF (x_assign rfl) (by decide) fun a hF => ?_
                    refine s_end (hK' _ _ (by omega) ⟨(fun _ => h0 (by omega)), (fun j hj => by by_cases e : j + 1 = t; (· have ej : j = t - 1 := (by omega); subst ej; rw [hrho] at hc131; omega); (· exact h9 j (by omega))), hBL, hF.sub _ rfl⟩)
              · exact absurd (leS_of (by omega) (by omega) (h0 (by omega)) (fun i hi => h9 i (by omega))) h1
          have hρ := rho_rng (M := M) (fun j hj => hM1 j (by omega))
          have v1 : leS p q → val p (rho M) ≤ val q (rho M) := fun h => leS.val hρ h (by omega) (by omega)
          have v2 : eqF p q → val p (rho M) = val q (rho M) := fun h => eqF.val hρ h (by omega) (by omega)
          have v3 : val (levF (nfC p) (nfK p)) (rho M) = val p (rho M) := levF_val (fun j => by have := hρ j; omega) (by omega)
          rcases em8 (leS p q) (eqF p q) (levF (nfC p) (nfK p)).good with ⟨h1, h2, h3⟩ | ⟨h1, h2, h3⟩ | ⟨h1, h2, h3⟩ | ⟨h1, h2, h3⟩ | ⟨h1, h2, h3⟩ | ⟨h1, h2, h3⟩ | ⟨h1, h2, h3⟩ | ⟨h1, h2, h3⟩
          · have u1 := v1 h1
            have u2 := v2 h2
            refine wp_rs fun K51 hK51 => ?_
            refine s_val hF (x_ldW wide24 m3 rfl rfl) (by decide) fun a hF => ?_
            refine s_val hF (x_ldW wide24 m4 rfl rfl) (by decide) fun a hF => ?_
            refine s_callB [_, _] hF (enters_of Try.func25 (by kernel_rfl) rfl) rfl (by decide) (leqS (RS.below hB hp) (RS.below hB hq) gp gq) fun w118 a B119 hF => ?_
            have sB119 := B119.size
            have hB := hB.trans (B119.mono hB.size)
            have hBS := hBS.trans (B119.mono hBS.size)
            have hBM := hBM.trans (B119.mono hBM.size)
            have hBm := hBm.trans (B119.mono hBm.size)
            have m3 := m3.old B119
            have m4 := m4.old B119
            have m11 := m11.old B119
            rw [decide_eq_true h1] at hF
            refine s_val hF (x_move rfl) (by decide) fun a hF => ?_
            refine s_grd 76 hF rfl rfl rfl ?_
            refine s_val hF (x_move rfl) (by decide) fun a hF => ?_
            refine s_grd 76 hF rfl rfl rfl ?_
            refine s_val hF (x_move rfl) (by decide) fun a hF => ?_
            refine s_grd 76 hF rfl rfl rfl ?_
            refine s_val hF (x_gtr (b := false) (decide_eq_false (by omega)) rfl rfl) (by decide) fun a hF => ?_
            refine s_val hF (x_pick (b := true) rfl rfl) (by decide) fun a hF => ?_
            refine s_val hF (x_move rfl) (by decide) fun a hF => ?_
            refine s_grd 81 hF rfl rfl rfl ?_
            refine s_val hF (x_ldW wide24 m3 rfl rfl) (by decide) fun a hF => ?_
            refine s_grd 81 hF rfl rfl rfl ?_
            refine s_val hF (x_ldW wide24 m4 rfl rfl) (by decide) fun a hF => ?_
            refine s_grd 81 hF rfl rfl rfl ?_
            refine s_callB [_, _] hF (enters_of Try.func23 (by kernel_rfl) rfl) rfl (by decide) (eqS (RS.below hB hp) (RS.below hB hq) gp gq) fun w120 a B121 hF => ?_
            have sB121 := B121.size
            have hB := hB.trans (B121.mono hB.size)
            have hBS := hBS.trans (B121.mono hBS.size)
            have hBM := hBM.trans (B121.mono hBM.size)
            have hBm := hBm.trans (B121.mono hBm.size)
            have m3 := m3.old B121
            have m4 := m4.old B121
            have m11 := m11.old B121
            rw [decide_eq_true h2] at hF
            refine s_grd 81 hF rfl rfl rfl ?_
            refine s_val hF (x_move rfl) (by decide) fun a hF => ?_
            refine s_grd 85 hF rfl rfl rfl ?_
            refine s_val hF (x_move rfl) (by decide) fun a hF => ?_
            refine s_grd 85 hF rfl rfl rfl ?_
            refine s_val hF (x_move rfl) (by decide) fun a hF => ?_
            refine s_grd 85 hF rfl rfl rfl ?_
            refine s_val hF (x_neq (b := false) (decide_eq_false (by omega)) rfl rfl) (by decide) fun a hF => ?_
            refine s_grd 81 hF rfl rfl rfl ?_
            refine s_val hF (x_pick (b := true) rfl rfl) (by decide) fun a hF => ?_
            refine s_val hF (x_pick (b := false) rfl rfl) (by decide) fun a hF => ?_
            refine s_val hF (x_move rfl) (by decide) fun a hF => ?_
            refine s_grd 91 hF rfl rfl rfl ?_
            refine s_val hF (x_ldW wide24 m11 rfl rfl) (by decide) fun a hF => ?_
            refine s_grd 91 hF rfl rfl rfl ?_
            refine s_callR (R := fun v w' => ∃ b, v = .bool b ∧ (b = true ↔ (levF (nfC p) (nfK p)).good)) [_] hF (enters_of Try.func17 (by kernel_rfl) rfl) rfl (by decide) (sndS (RS.below hBm hz)) ?_
            rintro _ w122 a ⟨bs93, rfl, hbs93⟩ B123 hF
            have sB123 := B123.size
            have hB := hB.trans (B123.mono hB.size)
            have hBS := hBS.trans (B123.mono hBS.size)
            have hBM := hBM.trans (B123.mono hBM.size)
            have hBm := hBm.trans (B123.mono hBm.size)
            have m3 := m3.old B123
            have m4 := m4.old B123
            have m11 := m11.old B123
            obtain rfl : bs93 = true := hbs93.2 h3
            refine s_grd 91 hF rfl rfl rfl ?_
            refine s_val hF (x_move rfl) (by decide) fun a hF => ?_
            refine s_grd 94 hF rfl rfl rfl ?_
            refine s_val hF (x_ldW wide24 m11 rfl rfl) (by decide) fun a hF => ?_
            refine s_grd 94 hF rfl rfl rfl ?_
            refine s_val hF (x_move rfl) (by decide) fun a hF => ?_
            refine s_grd 94 hF rfl rfl rfl ?_
            refine s_callB [_, _] hF (enters_of Try.func29 (by kernel_rfl) rfl) rfl (by decide) (valS (RS.below hBm hz) h3 (hM.below hBM) (by omega)) fun w124 a B125 hF => ?_
            have sB125 := B125.size
            have hB := hB.trans (B125.mono hB.size)
            have hBS := hBS.trans (B125.mono hBS.size)
            have hBM := hBM.trans (B125.mono hBM.size)
            have hBm := hBm.trans (B125.mono hBm.size)
            have m3 := m3.old B125
            have m4 := m4.old B125
            have m11 := m11.old B125
            refine s_grd 94 hF rfl rfl rfl ?_
            refine s_val hF (x_move rfl) (by decide) fun a hF => ?_
            refine s_grd 94 hF rfl rfl rfl ?_
            refine s_val hF (x_neq (b := false) (decide_eq_false (by omega)) rfl rfl) (by decide) fun a hF => ?_
            refine s_grd 91 hF rfl rfl rfl ?_
            refine s_val hF (x_pick (b := true) rfl rfl) (by decide) fun a hF => ?_
            refine s_val hF (x_pick (b := false) rfl rfl) (by decide) fun a hF => ?_
            refine s_end (hK51 _ _ ?_)
            refine wp_if hF rfl ?_
            refine wp_skip ?_
            exact key29 _ _ hB m3 m4 (hF.sub _ rfl)
          · have u1 := v1 h1
            have u2 := v2 h2
            refine wp_rs fun K52 hK52 => ?_
            refine s_val hF (x_ldW wide24 m3 rfl rfl) (by decide) fun a hF => ?_
            refine s_val hF (x_ldW wide24 m4 rfl rfl) (by decide) fun a hF => ?_
            refine s_callB [_, _] hF (enters_of Try.func25 (by kernel_rfl) rfl) rfl (by decide) (leqS (RS.below hB hp) (RS.below hB hq) gp gq) fun w126 a B127 hF => ?_
            have sB127 := B127.size
            have hB := hB.trans (B127.mono hB.size)
            have hBS := hBS.trans (B127.mono hBS.size)
            have hBM := hBM.trans (B127.mono hBM.size)
            have hBm := hBm.trans (B127.mono hBm.size)
            have m3 := m3.old B127
            have m4 := m4.old B127
            have m11 := m11.old B127
            rw [decide_eq_true h1] at hF
            refine s_val hF (x_move rfl) (by decide) fun a hF => ?_
            refine s_grd 76 hF rfl rfl rfl ?_
            refine s_val hF (x_move rfl) (by decide) fun a hF => ?_
            refine s_grd 76 hF rfl rfl rfl ?_
            refine s_val hF (x_move rfl) (by decide) fun a hF => ?_
            refine s_grd 76 hF rfl rfl rfl ?_
            refine s_val hF (x_gtr (b := false) (decide_eq_false (by omega)) rfl rfl) (by decide) fun a hF => ?_
            refine s_val hF (x_pick (b := true) rfl rfl) (by decide) fun a hF => ?_
            refine s_val hF (x_move rfl) (by decide) fun a hF => ?_
            refine s_grd 81 hF rfl rfl rfl ?_
            refine s_val hF (x_ldW wide24 m3 rfl rfl) (by decide) fun a hF => ?_
            refine s_grd 81 hF rfl rfl rfl ?_
            refine s_val hF (x_ldW wide24 m4 rfl rfl) (by decide) fun a hF => ?_
            refine s_grd 81 hF rfl rfl rfl ?_
            refine s_callB [_, _] hF (enters_of Try.func23 (by kernel_rfl) rfl) rfl (by decide) (eqS (RS.below hB hp) (RS.below hB hq) gp gq) fun w128 a B129 hF => ?_
            have sB129 := B129.size
            have hB := hB.trans (B129.mono hB.size)
            have hBS := hBS.trans (B129.mono hBS.size)
            have hBM := hBM.trans (B129.mono hBM.size)
            have hBm := hBm.trans (B129.mono hBm.size)
            have m3 := m3.old B129
            have m4 := m4.old B129
            have m11 := m11.old B129
            rw [decide_eq_true h2] at hF
            refine s_grd 81 hF rfl rfl rfl ?_
            refine s_val hF (x_move rfl) (by decide) fun a hF => ?_
            refine s_grd 85 hF rfl rfl rfl ?_
            refine s_val hF (x_move rfl) (by decide) fun a hF => ?_
            refine s_grd 85 hF rfl rfl rfl ?_
            refine s_val hF (x_move rfl) (by decide) fun a hF => ?_
            refine s_grd 85 hF rfl rfl rfl ?_
            refine s_val hF (x_neq (b := false) (decide_eq_false (by omega)) rfl rfl) (by decide) fun a hF => ?_
            refine s_grd 81 hF rfl rfl rfl ?_
            refine s_val hF (x_pick (b := true) rfl rfl) (by decide) fun a hF => ?_
            refine s_val hF (x_pick (b := false) rfl rfl) (by decide) fun a hF => ?_
            refine s_val hF (x_move rfl) (by decide) fun a hF => ?_
            refine s_grd 91 hF rfl rfl rfl ?_
            refine s_val hF (x_ldW wide24 m11 rfl rfl) (by decide) fun a hF => ?_
            refine s_grd 91 hF rfl rfl rfl ?_
            refine s_callR (R := fun v w' => ∃ b, v = .bool b ∧ (b = true ↔ (levF (nfC p) (nfK p)).good)) [_] hF (enters_of Try.func17 (by kernel_rfl) rfl) rfl (by decide) (sndS (RS.below hBm hz)) ?_
            rintro _ w130 a ⟨bs93, rfl, hbs93⟩ B131 hF
            have sB131 := B131.size
            have hB := hB.trans (B131.mono hB.size)
            have hBS := hBS.trans (B131.mono hBS.size)
            have hBM := hBM.trans (B131.mono hBM.size)
            have hBm := hBm.trans (B131.mono hBm.size)
            have m3 := m3.old B131
            have m4 := m4.old B131
            have m11 := m11.old B131
            obtain rfl : bs93 = false := Bool.eq_false_iff.2 fun h => h3 (hbs93.1 h)
            refine s_grd 91 hF rfl rfl rfl ?_
            refine s_val hF (x_move rfl) (by decide) fun a hF => ?_
            refine s_grdn 94 hF rfl rfl (by decide) fun a hF => ?_
            refine s_grdn 94 hF rfl rfl (by decide) fun a hF => ?_
            refine s_grdn 94 hF rfl rfl (by decide) fun a hF => ?_
            refine s_grdn 94 hF rfl rfl (by decide) fun a hF => ?_
            refine s_grdn 94 hF rfl rfl (by decide) fun a hF => ?_
            refine s_grd 91 hF rfl rfl rfl ?_
            refine s_val hF (x_pick (b := false) rfl rfl) (by decide) fun a hF => ?_
            refine s_val hF (x_pick (b := false) rfl rfl) (by decide) fun a hF => ?_
            refine s_end (hK52 _ _ ?_)
            refine wp_if hF rfl ?_
            refine wp_skip ?_
            exact key29 _ _ hB m3 m4 (hF.sub _ rfl)
          · have u1 := v1 h1
            refine wp_rs fun K53 hK53 => ?_
            refine s_val hF (x_ldW wide24 m3 rfl rfl) (by decide) fun a hF => ?_
            refine s_val hF (x_ldW wide24 m4 rfl rfl) (by decide) fun a hF => ?_
            refine s_callB [_, _] hF (enters_of Try.func25 (by kernel_rfl) rfl) rfl (by decide) (leqS (RS.below hB hp) (RS.below hB hq) gp gq) fun w132 a B133 hF => ?_
            have sB133 := B133.size
            have hB := hB.trans (B133.mono hB.size)
            have hBS := hBS.trans (B133.mono hBS.size)
            have hBM := hBM.trans (B133.mono hBM.size)
            have hBm := hBm.trans (B133.mono hBm.size)
            have m3 := m3.old B133
            have m4 := m4.old B133
            have m11 := m11.old B133
            rw [decide_eq_true h1] at hF
            refine s_val hF (x_move rfl) (by decide) fun a hF => ?_
            refine s_grd 76 hF rfl rfl rfl ?_
            refine s_val hF (x_move rfl) (by decide) fun a hF => ?_
            refine s_grd 76 hF rfl rfl rfl ?_
            refine s_val hF (x_move rfl) (by decide) fun a hF => ?_
            refine s_grd 76 hF rfl rfl rfl ?_
            refine s_val hF (x_gtr (b := false) (decide_eq_false (by omega)) rfl rfl) (by decide) fun a hF => ?_
            refine s_val hF (x_pick (b := true) rfl rfl) (by decide) fun a hF => ?_
            refine s_val hF (x_move rfl) (by decide) fun a hF => ?_
            refine s_grd 81 hF rfl rfl rfl ?_
            refine s_val hF (x_ldW wide24 m3 rfl rfl) (by decide) fun a hF => ?_
            refine s_grd 81 hF rfl rfl rfl ?_
            refine s_val hF (x_ldW wide24 m4 rfl rfl) (by decide) fun a hF => ?_
            refine s_grd 81 hF rfl rfl rfl ?_
            refine s_callB [_, _] hF (enters_of Try.func23 (by kernel_rfl) rfl) rfl (by decide) (eqS (RS.below hB hp) (RS.below hB hq) gp gq) fun w134 a B135 hF => ?_
            have sB135 := B135.size
            have hB := hB.trans (B135.mono hB.size)
            have hBS := hBS.trans (B135.mono hBS.size)
            have hBM := hBM.trans (B135.mono hBM.size)
            have hBm := hBm.trans (B135.mono hBm.size)
            have m3 := m3.old B135
            have m4 := m4.old B135
            have m11 := m11.old B135
            rw [decide_eq_false h2] at hF
            refine s_grd 81 hF rfl rfl rfl ?_
            refine s_val hF (x_move rfl) (by decide) fun a hF => ?_
            refine s_grdn 85 hF rfl rfl (by decide) fun a hF => ?_
            refine s_grdn 85 hF rfl rfl (by decide) fun a hF => ?_
            refine s_grdn 85 hF rfl rfl (by decide) fun a hF => ?_
            refine s_grd 81 hF rfl rfl rfl ?_
            refine s_val hF (x_pick (b := false) rfl rfl) (by decide) fun a hF => ?_
            refine s_val hF (x_pick (b := false) rfl rfl) (by decide) fun a hF => ?_
            refine s_val hF (x_move rfl) (by decide) fun a hF => ?_
            refine s_grd 91 hF rfl rfl rfl ?_
            refine s_val hF (x_ldW wide24 m11 rfl rfl) (by decide) fun a hF => ?_
            refine s_grd 91 hF rfl rfl rfl ?_
            refine s_callR (R := fun v w' => ∃ b, v = .bool b ∧ (b = true ↔ (levF (nfC p) (nfK p)).good)) [_] hF (enters_of Try.func17 (by kernel_rfl) rfl) rfl (by decide) (sndS (RS.below hBm hz)) ?_
            rintro _ w136 a ⟨bs93, rfl, hbs93⟩ B137 hF
            have sB137 := B137.size
            have hB := hB.trans (B137.mono hB.size)
            have hBS := hBS.trans (B137.mono hBS.size)
            have hBM := hBM.trans (B137.mono hBM.size)
            have hBm := hBm.trans (B137.mono hBm.size)
            have m3 := m3.old B137
            have m4 := m4.old B137
            have m11 := m11.old B137
            obtain rfl : bs93 = true := hbs93.2 h3
            refine s_grd 91 hF rfl rfl rfl ?_
            refine s_val hF (x_move rfl) (by decide) fun a hF => ?_
            refine s_grd 94 hF rfl rfl rfl ?_
            refine s_val hF (x_ldW wide24 m11 rfl rfl) (by decide) fun a hF => ?_
            refine s_grd 94 hF rfl rfl rfl ?_
            refine s_val hF (x_move rfl) (by decide) fun a hF => ?_
            refine s_grd 94 hF rfl rfl rfl ?_
            refine s_callB [_, _] hF (enters_of Try.func29 (by kernel_rfl) rfl) rfl (by decide) (valS (RS.below hBm hz) h3 (hM.below hBM) (by omega)) fun w138 a B139 hF => ?_
            have sB139 := B139.size
            have hB := hB.trans (B139.mono hB.size)
            have hBS := hBS.trans (B139.mono hBS.size)
            have hBM := hBM.trans (B139.mono hBM.size)
            have hBm := hBm.trans (B139.mono hBm.size)
            have m3 := m3.old B139
            have m4 := m4.old B139
            have m11 := m11.old B139
            refine s_grd 94 hF rfl rfl rfl ?_
            refine s_val hF (x_move rfl) (by decide) fun a hF => ?_
            refine s_grd 94 hF rfl rfl rfl ?_
            refine s_val hF (x_neq (b := false) (decide_eq_false (by omega)) rfl rfl) (by decide) fun a hF => ?_
            refine s_grd 91 hF rfl rfl rfl ?_
            refine s_val hF (x_pick (b := true) rfl rfl) (by decide) fun a hF => ?_
            refine s_val hF (x_pick (b := false) rfl rfl) (by decide) fun a hF => ?_
            refine s_end (hK53 _ _ ?_)
            refine wp_if hF rfl ?_
            refine wp_skip ?_
            exact key29 _ _ hB m3 m4 (hF.sub _ rfl)
          · have u1 := v1 h1
            refine wp_rs fun K54 hK54 => ?_
            refine s_val hF (x_ldW wide24 m3 rfl rfl) (by decide) fun a hF => ?_
            refine s_val hF (x_ldW wide24 m4 rfl rfl) (by decide) fun a hF => ?_
            refine s_callB [_, _] hF (enters_of Try.func25 (by kernel_rfl) rfl) rfl (by decide) (leqS (RS.below hB hp) (RS.below hB hq) gp gq) fun w140 a B141 hF => ?_
            have sB141 := B141.size
            have hB := hB.trans (B141.mono hB.size)
            have hBS := hBS.trans (B141.mono hBS.size)
            have hBM := hBM.trans (B141.mono hBM.size)
            have hBm := hBm.trans (B141.mono hBm.size)
            have m3 := m3.old B141
            have m4 := m4.old B141
            have m11 := m11.old B141
            rw [decide_eq_true h1] at hF
            refine s_val hF (x_move rfl) (by decide) fun a hF => ?_
            refine s_grd 76 hF rfl rfl rfl ?_
            refine s_val hF (x_move rfl) (by decide) fun a hF => ?_
            refine s_grd 76 hF rfl rfl rfl ?_
            refine s_val hF (x_move rfl) (by decide) fun a hF => ?_
            refine s_grd 76 hF rfl rfl rfl ?_
            refine s_val hF (x_gtr (b := false) (decide_eq_false (by omega)) rfl rfl) (by decide) fun a hF => ?_
            refine s_val hF (x_pick (b := true) rfl rfl) (by decide) fun a hF => ?_
            refine s_val hF (x_move rfl) (by decide) fun a hF => ?_
            refine s_grd 81 hF rfl rfl rfl ?_
            refine s_val hF (x_ldW wide24 m3 rfl rfl) (by decide) fun a hF => ?_
            refine s_grd 81 hF rfl rfl rfl ?_
            refine s_val hF (x_ldW wide24 m4 rfl rfl) (by decide) fun a hF => ?_
            refine s_grd 81 hF rfl rfl rfl ?_
            refine s_callB [_, _] hF (enters_of Try.func23 (by kernel_rfl) rfl) rfl (by decide) (eqS (RS.below hB hp) (RS.below hB hq) gp gq) fun w142 a B143 hF => ?_
            have sB143 := B143.size
            have hB := hB.trans (B143.mono hB.size)
            have hBS := hBS.trans (B143.mono hBS.size)
            have hBM := hBM.trans (B143.mono hBM.size)
            have hBm := hBm.trans (B143.mono hBm.size)
            have m3 := m3.old B143
            have m4 := m4.old B143
            have m11 := m11.old B143
            rw [decide_eq_false h2] at hF
            refine s_grd 81 hF rfl rfl rfl ?_
            refine s_val hF (x_move rfl) (by decide) fun a hF => ?_
            refine s_grdn 85 hF rfl rfl (by decide) fun a hF => ?_
            refine s_grdn 85 hF rfl rfl (by decide) fun a hF => ?_
            refine s_grdn 85 hF rfl rfl (by decide) fun a hF => ?_
            refine s_grd 81 hF rfl rfl rfl ?_
            refine s_val hF (x_pick (b := false) rfl rfl) (by decide) fun a hF => ?_
            refine s_val hF (x_pick (b := false) rfl rfl) (by decide) fun a hF => ?_
            refine s_val hF (x_move rfl) (by decide) fun a hF => ?_
            refine s_grd 91 hF rfl rfl rfl ?_
            refine s_val hF (x_ldW wide24 m11 rfl rfl) (by decide) fun a hF => ?_
            refine s_grd 91 hF rfl rfl rfl ?_
            refine s_callR (R := fun v w' => ∃ b, v = .bool b ∧ (b = true ↔ (levF (nfC p) (nfK p)).good)) [_] hF (enters_of Try.func17 (by kernel_rfl) rfl) rfl (by decide) (sndS (RS.below hBm hz)) ?_
            rintro _ w144 a ⟨bs93, rfl, hbs93⟩ B145 hF
            have sB145 := B145.size
            have hB := hB.trans (B145.mono hB.size)
            have hBS := hBS.trans (B145.mono hBS.size)
            have hBM := hBM.trans (B145.mono hBM.size)
            have hBm := hBm.trans (B145.mono hBm.size)
            have m3 := m3.old B145
            have m4 := m4.old B145
            have m11 := m11.old B145
            obtain rfl : bs93 = false := Bool.eq_false_iff.2 fun h => h3 (hbs93.1 h)
            refine s_grd 91 hF rfl rfl rfl ?_
            refine s_val hF (x_move rfl) (by decide) fun a hF => ?_
            refine s_grdn 94 hF rfl rfl (by decide) fun a hF => ?_
            refine s_grdn 94 hF rfl rfl (by decide) fun a hF => ?_
            refine s_grdn 94 hF rfl rfl (by decide) fun a hF => ?_
            refine s_grdn 94 hF rfl rfl (by decide) fun a hF => ?_
            refine s_grdn 94 hF rfl rfl (by decide) fun a hF => ?_
            refine s_grd 91 hF rfl rfl rfl ?_
            refine s_val hF (x_pick (b := false) rfl rfl) (by decide) fun a hF => ?_
            refine s_val hF (x_pick (b := false) rfl rfl) (by decide) fun a hF => ?_
            refine s_end (hK54 _ _ ?_)
            refine wp_if hF rfl ?_
            refine wp_skip ?_
            exact key29 _ _ hB m3 m4 (hF.sub _ rfl)
          · have u2 := v2 h2
            refine wp_rs fun K55 hK55 => ?_
            refine s_val hF (x_ldW wide24 m3 rfl rfl) (by decide) fun a hF => ?_
            refine s_val hF (x_ldW wide24 m4 rfl rfl) (by decide) fun a hF => ?_
            refine s_callB [_, _] hF (enters_of Try.func25 (by kernel_rfl) rfl) rfl (by decide) (leqS (RS.below hB hp) (RS.below hB hq) gp gq) fun w146 a B147 hF => ?_
            have sB147 := B147.size
            have hB := hB.trans (B147.mono hB.size)
            have hBS := hBS.trans (B147.mono hBS.size)
            have hBM := hBM.trans (B147.mono hBM.size)
            have hBm := hBm.trans (B147.mono hBm.size)
            have m3 := m3.old B147
            have m4 := m4.old B147
            have m11 := m11.old B147
            rw [decide_eq_false h1] at hF
            refine s_val hF (x_move rfl) (by decide) fun a hF => ?_
            refine s_grdn 76 hF rfl rfl (by decide) fun a hF => ?_
            refine s_grdn 76 hF rfl rfl (by decide) fun a hF => ?_
            refine s_grdn 76 hF rfl rfl (by decide) fun a hF => ?_
            refine s_val hF (x_pick (b := false) rfl rfl) (by decide) fun a hF => ?_
            refine s_val hF (x_move rfl) (by decide) fun a hF => ?_
            refine s_grd 81 hF rfl rfl rfl ?_
            refine s_val hF (x_ldW wide24 m3 rfl rfl) (by decide) fun a hF => ?_
            refine s_grd 81 hF rfl rfl rfl ?_
            refine s_val hF (x_ldW wide24 m4 rfl rfl) (by decide) fun a hF => ?_
            refine s_grd 81 hF rfl rfl rfl ?_
            refine s_callB [_, _] hF (enters_of Try.func23 (by kernel_rfl) rfl) rfl (by decide) (eqS (RS.below hB hp) (RS.below hB hq) gp gq) fun w148 a B149 hF => ?_
            have sB149 := B149.size
            have hB := hB.trans (B149.mono hB.size)
            have hBS := hBS.trans (B149.mono hBS.size)
            have hBM := hBM.trans (B149.mono hBM.size)
            have hBm := hBm.trans (B149.mono hBm.size)
            have m3 := m3.old B149
            have m4 := m4.old B149
            have m11 := m11.old B149
            rw [decide_eq_true h2] at hF
            refine s_grd 81 hF rfl rfl rfl ?_
            refine s_val hF (x_move rfl) (by decide) fun a hF => ?_
            refine s_grd 85 hF rfl rfl rfl ?_
            refine s_val hF (x_move rfl) (by decide) fun a hF => ?_
            refine s_grd 85 hF rfl rfl rfl ?_
            refine s_val hF (x_move rfl) (by decide) fun a hF => ?_
            refine s_grd 85 hF rfl rfl rfl ?_
            refine s_val hF (x_neq (b := false) (decide_eq_false (by omega)) rfl rfl) (by decide) fun a hF => ?_
            refine s_grd 81 hF rfl rfl rfl ?_
            refine s_val hF (x_pick (b := true) rfl rfl) (by decide) fun a hF => ?_
            refine s_val hF (x_pick (b := false) rfl rfl) (by decide) fun a hF => ?_
            refine s_val hF (x_move rfl) (by decide) fun a hF => ?_
            refine s_grd 91 hF rfl rfl rfl ?_
            refine s_val hF (x_ldW wide24 m11 rfl rfl) (by decide) fun a hF => ?_
            refine s_grd 91 hF rfl rfl rfl ?_
            refine s_callR (R := fun v w' => ∃ b, v = .bool b ∧ (b = true ↔ (levF (nfC p) (nfK p)).good)) [_] hF (enters_of Try.func17 (by kernel_rfl) rfl) rfl (by decide) (sndS (RS.below hBm hz)) ?_
            rintro _ w150 a ⟨bs93, rfl, hbs93⟩ B151 hF
            have sB151 := B151.size
            have hB := hB.trans (B151.mono hB.size)
            have hBS := hBS.trans (B151.mono hBS.size)
            have hBM := hBM.trans (B151.mono hBM.size)
            have hBm := hBm.trans (B151.mono hBm.size)
            have m3 := m3.old B151
            have m4 := m4.old B151
            have m11 := m11.old B151
            obtain rfl : bs93 = true := hbs93.2 h3
            refine s_grd 91 hF rfl rfl rfl ?_
            refine s_val hF (x_move rfl) (by decide) fun a hF => ?_
            refine s_grd 94 hF rfl rfl rfl ?_
            refine s_val hF (x_ldW wide24 m11 rfl rfl) (by decide) fun a hF => ?_
            refine s_grd 94 hF rfl rfl rfl ?_
            refine s_val hF (x_move rfl) (by decide) fun a hF => ?_
            refine s_grd 94 hF rfl rfl rfl ?_
            refine s_callB [_, _] hF (enters_of Try.func29 (by kernel_rfl) rfl) rfl (by decide) (valS (RS.below hBm hz) h3 (hM.below hBM) (by omega)) fun w152 a B153 hF => ?_
            have sB153 := B153.size
            have hB := hB.trans (B153.mono hB.size)
            have hBS := hBS.trans (B153.mono hBS.size)
            have hBM := hBM.trans (B153.mono hBM.size)
            have hBm := hBm.trans (B153.mono hBm.size)
            have m3 := m3.old B153
            have m4 := m4.old B153
            have m11 := m11.old B153
            refine s_grd 94 hF rfl rfl rfl ?_
            refine s_val hF (x_move rfl) (by decide) fun a hF => ?_
            refine s_grd 94 hF rfl rfl rfl ?_
            refine s_val hF (x_neq (b := false) (decide_eq_false (by omega)) rfl rfl) (by decide) fun a hF => ?_
            refine s_grd 91 hF rfl rfl rfl ?_
            refine s_val hF (x_pick (b := true) rfl rfl) (by decide) fun a hF => ?_
            refine s_val hF (x_pick (b := false) rfl rfl) (by decide) fun a hF => ?_
            refine s_end (hK55 _ _ ?_)
            refine wp_if hF rfl ?_
            refine wp_skip ?_
            exact key29 _ _ hB m3 m4 (hF.sub _ rfl)
          · have u2 := v2 h2
            refine wp_rs fun K56 hK56 => ?_
            refine s_val hF (x_ldW wide24 m3 rfl rfl) (by decide) fun a hF => ?_
            refine s_val hF (x_ldW wide24 m4 rfl rfl) (by decide) fun a hF => ?_
            refine s_callB [_, _] hF (enters_of Try.func25 (by kernel_rfl) rfl) rfl (by decide) (leqS (RS.below hB hp) (RS.below hB hq) gp gq) fun w154 a B155 hF => ?_
            have sB155 := B155.size
            have hB := hB.trans (B155.mono hB.size)
            have hBS := hBS.trans (B155.mono hBS.size)
            have hBM := hBM.trans (B155.mono hBM.size)
            have hBm := hBm.trans (B155.mono hBm.size)
            have m3 := m3.old B155
            have m4 := m4.old B155
            have m11 := m11.old B155
            rw [decide_eq_false h1] at hF
            refine s_val hF (x_move rfl) (by decide) fun a hF => ?_
            refine s_grdn 76 hF rfl rfl (by decide) fun a hF => ?_
            refine s_grdn 76 hF rfl rfl (by decide) fun a hF => ?_
            refine s_grdn 76 hF rfl rfl (by decide) fun a hF => ?_
            refine s_val hF (x_pick (b := false) rfl rfl) (by decide) fun a hF => ?_
            refine s_val hF (x_move rfl) (by decide) fun a hF => ?_
            refine s_grd 81 hF rfl rfl rfl ?_
            refine s_val hF (x_ldW wide24 m3 rfl rfl) (by decide) fun a hF => ?_
            refine s_grd 81 hF rfl rfl rfl ?_
            refine s_val hF (x_ldW wide24 m4 rfl rfl) (by decide) fun a hF => ?_
            refine s_grd 81 hF rfl rfl rfl ?_
            refine s_callB [_, _] hF (enters_of Try.func23 (by kernel_rfl) rfl) rfl (by decide) (eqS (RS.below hB hp) (RS.below hB hq) gp gq) fun w156 a B157 hF => ?_
            have sB157 := B157.size
            have hB := hB.trans (B157.mono hB.size)
            have hBS := hBS.trans (B157.mono hBS.size)
            have hBM := hBM.trans (B157.mono hBM.size)
            have hBm := hBm.trans (B157.mono hBm.size)
            have m3 := m3.old B157
            have m4 := m4.old B157
            have m11 := m11.old B157
            rw [decide_eq_true h2] at hF
            refine s_grd 81 hF rfl rfl rfl ?_
            refine s_val hF (x_move rfl) (by decide) fun a hF => ?_
            refine s_grd 85 hF rfl rfl rfl ?_
            refine s_val hF (x_move rfl) (by decide) fun a hF => ?_
            refine s_grd 85 hF rfl rfl rfl ?_
            refine s_val hF (x_move rfl) (by decide) fun a hF => ?_
            refine s_grd 85 hF rfl rfl rfl ?_
            refine s_val hF (x_neq (b := false) (decide_eq_false (by omega)) rfl rfl) (by decide) fun a hF => ?_
            refine s_grd 81 hF rfl rfl rfl ?_
            refine s_val hF (x_pick (b := true) rfl rfl) (by decide) fun a hF => ?_
            refine s_val hF (x_pick (b := false) rfl rfl) (by decide) fun a hF => ?_
            refine s_val hF (x_move rfl) (by decide) fun a hF => ?_
            refine s_grd 91 hF rfl rfl rfl ?_
            refine s_val hF (x_ldW wide24 m11 rfl rfl) (by decide) fun a hF => ?_
            refine s_grd 91 hF rfl rfl rfl ?_
            refine s_callR (R := fun v w' => ∃ b, v = .bool b ∧ (b = true ↔ (levF (nfC p) (nfK p)).good)) [_] hF (enters_of Try.func17 (by kernel_rfl) rfl) rfl (by decide) (sndS (RS.below hBm hz)) ?_
            rintro _ w158 a ⟨bs93, rfl, hbs93⟩ B159 hF
            have sB159 := B159.size
            have hB := hB.trans (B159.mono hB.size)
            have hBS := hBS.trans (B159.mono hBS.size)
            have hBM := hBM.trans (B159.mono hBM.size)
            have hBm := hBm.trans (B159.mono hBm.size)
            have m3 := m3.old B159
            have m4 := m4.old B159
            have m11 := m11.old B159
            obtain rfl : bs93 = false := Bool.eq_false_iff.2 fun h => h3 (hbs93.1 h)
            refine s_grd 91 hF rfl rfl rfl ?_
            refine s_val hF (x_move rfl) (by decide) fun a hF => ?_
            refine s_grdn 94 hF rfl rfl (by decide) fun a hF => ?_
            refine s_grdn 94 hF rfl rfl (by decide) fun a hF => ?_
            refine s_grdn 94 hF rfl rfl (by decide) fun a hF => ?_
            refine s_grdn 94 hF rfl rfl (by decide) fun a hF => ?_
            refine s_grdn 94 hF rfl rfl (by decide) fun a hF => ?_
            refine s_grd 91 hF rfl rfl rfl ?_
            refine s_val hF (x_pick (b := false) rfl rfl) (by decide) fun a hF => ?_
            refine s_val hF (x_pick (b := false) rfl rfl) (by decide) fun a hF => ?_
            refine s_end (hK56 _ _ ?_)
            refine wp_if hF rfl ?_
            refine wp_skip ?_
            exact key29 _ _ hB m3 m4 (hF.sub _ rfl)
          · skip
            refine wp_rs fun K57 hK57 => ?_
            refine s_val hF (x_ldW wide24 m3 rfl rfl) (by decide) fun a hF => ?_
            refine s_val hF (x_ldW wide24 m4 rfl rfl) (by decide) fun a hF => ?_
            refine s_callB [_, _] hF (enters_of Try.func25 (by kernel_rfl) rfl) rfl (by decide) (leqS (RS.below hB hp) (RS.below hB hq) gp gq) fun w160 a B161 hF => ?_
            have sB161 := B161.size
            have hB := hB.trans (B161.mono hB.size)
            have hBS := hBS.trans (B161.mono hBS.size)
            have hBM := hBM.trans (B161.mono hBM.size)
            have hBm := hBm.trans (B161.mono hBm.size)
            have m3 := m3.old B161
            have m4 := m4.old B161
            have m11 := m11.old B161
            rw [decide_eq_false h1] at hF
            refine s_val hF (x_move rfl) (by decide) fun a hF => ?_
            refine s_grdn 76 hF rfl rfl (by decide) fun a hF => ?_
            refine s_grdn 76 hF rfl rfl (by decide) fun a hF => ?_
            refine s_grdn 76 hF rfl rfl (by decide) fun a hF => ?_
            refine s_val hF (x_pick (b := false) rfl rfl) (by decide) fun a hF => ?_
            refine s_val hF (x_move rfl) (by decide) fun a hF => ?_
            refine s_grd 81 hF rfl rfl rfl ?_
            refine s_val hF (x_ldW wide24 m3 rfl rfl) (by decide) fun a hF => ?_
            refine s_grd 81 hF rfl rfl rfl ?_
            refine s_val hF (x_ldW wide24 m4 rfl rfl) (by decide) fun a hF => ?_
            refine s_grd 81 hF rfl rfl rfl ?_
            refine s_callB [_, _] hF (enters_of Try.func23 (by kernel_rfl) rfl) rfl (by decide) (eqS (RS.below hB hp) (RS.below hB hq) gp gq) fun w162 a B163 hF => ?_
            have sB163 := B163.size
            have hB := hB.trans (B163.mono hB.size)
            have hBS := hBS.trans (B163.mono hBS.size)
            have hBM := hBM.trans (B163.mono hBM.size)
            have hBm := hBm.trans (B163.mono hBm.size)
            have m3 := m3.old B163
            have m4 := m4.old B163
            have m11 := m11.old B163
            rw [decide_eq_false h2] at hF
            refine s_grd 81 hF rfl rfl rfl ?_
            refine s_val hF (x_move rfl) (by decide) fun a hF => ?_
            refine s_grdn 85 hF rfl rfl (by decide) fun a hF => ?_
            refine s_grdn 85 hF rfl rfl (by decide) fun a hF => ?_
            refine s_grdn 85 hF rfl rfl (by decide) fun a hF => ?_
            refine s_grd 81 hF rfl rfl rfl ?_
            refine s_val hF (x_pick (b := false) rfl rfl) (by decide) fun a hF => ?_
            refine s_val hF (x_pick (b := false) rfl rfl) (by decide) fun a hF => ?_
            refine s_val hF (x_move rfl) (by decide) fun a hF => ?_
            refine s_grd 91 hF rfl rfl rfl ?_
            refine s_val hF (x_ldW wide24 m11 rfl rfl) (by decide) fun a hF => ?_
            refine s_grd 91 hF rfl rfl rfl ?_
            refine s_callR (R := fun v w' => ∃ b, v = .bool b ∧ (b = true ↔ (levF (nfC p) (nfK p)).good)) [_] hF (enters_of Try.func17 (by kernel_rfl) rfl) rfl (by decide) (sndS (RS.below hBm hz)) ?_
            rintro _ w164 a ⟨bs93, rfl, hbs93⟩ B165 hF
            have sB165 := B165.size
            have hB := hB.trans (B165.mono hB.size)
            have hBS := hBS.trans (B165.mono hBS.size)
            have hBM := hBM.trans (B165.mono hBM.size)
            have hBm := hBm.trans (B165.mono hBm.size)
            have m3 := m3.old B165
            have m4 := m4.old B165
            have m11 := m11.old B165
            obtain rfl : bs93 = true := hbs93.2 h3
            refine s_grd 91 hF rfl rfl rfl ?_
            refine s_val hF (x_move rfl) (by decide) fun a hF => ?_
            refine s_grd 94 hF rfl rfl rfl ?_
            refine s_val hF (x_ldW wide24 m11 rfl rfl) (by decide) fun a hF => ?_
            refine s_grd 94 hF rfl rfl rfl ?_
            refine s_val hF (x_move rfl) (by decide) fun a hF => ?_
            refine s_grd 94 hF rfl rfl rfl ?_
            refine s_callB [_, _] hF (enters_of Try.func29 (by kernel_rfl) rfl) rfl (by decide) (valS (RS.below hBm hz) h3 (hM.below hBM) (by omega)) fun w166 a B167 hF => ?_
            have sB167 := B167.size
            have hB := hB.trans (B167.mono hB.size)
            have hBS := hBS.trans (B167.mono hBS.size)
            have hBM := hBM.trans (B167.mono hBM.size)
            have hBm := hBm.trans (B167.mono hBm.size)
            have m3 := m3.old B167
            have m4 := m4.old B167
            have m11 := m11.old B167
            refine s_grd 94 hF rfl rfl rfl ?_
            refine s_val hF (x_move rfl) (by decide) fun a hF => ?_
            refine s_grd 94 hF rfl rfl rfl ?_
            refine s_val hF (x_neq (b := false) (decide_eq_false (by omega)) rfl rfl) (by decide) fun a hF => ?_
            refine s_grd 91 hF rfl rfl rfl ?_
            refine s_val hF (x_pick (b := true) rfl rfl) (by decide) fun a hF => ?_
            refine s_val hF (x_pick (b := false) rfl rfl) (by decide) fun a hF => ?_
            refine s_end (hK57 _ _ ?_)
            refine wp_if hF rfl ?_
            refine wp_skip ?_
            exact key29 _ _ hB m3 m4 (hF.sub _ rfl)
          · skip
            refine wp_rs fun K58 hK58 => ?_
            refine s_val hF (x_ldW wide24 m3 rfl rfl) (by decide) fun a hF => ?_
            refine s_val hF (x_ldW wide24 m4 rfl rfl) (by decide) fun a hF => ?_
            refine s_callB [_, _] hF (enters_of Try.func25 (by kernel_rfl) rfl) rfl (by decide) (leqS (RS.below hB hp) (RS.below hB hq) gp gq) fun w168 a B169 hF => ?_
            have sB169 := B169.size
            have hB := hB.trans (B169.mono hB.size)
            have hBS := hBS.trans (B169.mono hBS.size)
            have hBM := hBM.trans (B169.mono hBM.size)
            have hBm := hBm.trans (B169.mono hBm.size)
            have m3 := m3.old B169
            have m4 := m4.old B169
            have m11 := m11.old B169
            rw [decide_eq_false h1] at hF
            refine s_val hF (x_move rfl) (by decide) fun a hF => ?_
            refine s_grdn 76 hF rfl rfl (by decide) fun a hF => ?_
            refine s_grdn 76 hF rfl rfl (by decide) fun a hF => ?_
            refine s_grdn 76 hF rfl rfl (by decide) fun a hF => ?_
            refine s_val hF (x_pick (b := false) rfl rfl) (by decide) fun a hF => ?_
            refine s_val hF (x_move rfl) (by decide) fun a hF => ?_
            refine s_grd 81 hF rfl rfl rfl ?_
            refine s_val hF (x_ldW wide24 m3 rfl rfl) (by decide) fun a hF => ?_
            refine s_grd 81 hF rfl rfl rfl ?_
            refine s_val hF (x_ldW wide24 m4 rfl rfl) (by decide) fun a hF => ?_
            refine s_grd 81 hF rfl rfl rfl ?_
            refine s_callB [_, _] hF (enters_of Try.func23 (by kernel_rfl) rfl) rfl (by decide) (eqS (RS.below hB hp) (RS.below hB hq) gp gq) fun w170 a B171 hF => ?_
            have sB171 := B171.size
            have hB := hB.trans (B171.mono hB.size)
            have hBS := hBS.trans (B171.mono hBS.size)
            have hBM := hBM.trans (B171.mono hBM.size)
            have hBm := hBm.trans (B171.mono hBm.size)
            have m3 := m3.old B171
            have m4 := m4.old B171
            have m11 := m11.old B171
            rw [decide_eq_false h2] at hF
            refine s_grd 81 hF rfl rfl rfl ?_
            refine s_val hF (x_move rfl) (by decide) fun a hF => ?_
            refine s_grdn 85 hF rfl rfl (by decide) fun a hF => ?_
            refine s_grdn 85 hF rfl rfl (by decide) fun a hF => ?_
            refine s_grdn 85 hF rfl rfl (by decide) fun a hF => ?_
            refine s_grd 81 hF rfl rfl rfl ?_
            refine s_val hF (x_pick (b := false) rfl rfl) (by decide) fun a hF => ?_
            refine s_val hF (x_pick (b := false) rfl rfl) (by decide) fun a hF => ?_
            refine s_val hF (x_move rfl) (by decide) fun a hF => ?_
            refine s_grd 91 hF rfl rfl rfl ?_
            refine s_val hF (x_ldW wide24 m11 rfl rfl) (by decide) fun a hF => ?_
            refine s_grd 91 hF rfl rfl rfl ?_
            refine s_callR (R := fun v w' => ∃ b, v = .bool b ∧ (b = true ↔ (levF (nfC p) (nfK p)).good)) [_] hF (enters_of Try.func17 (by kernel_rfl) rfl) rfl (by decide) (sndS (RS.below hBm hz)) ?_
            rintro _ w172 a ⟨bs93, rfl, hbs93⟩ B173 hF
            have sB173 := B173.size
            have hB := hB.trans (B173.mono hB.size)
            have hBS := hBS.trans (B173.mono hBS.size)
            have hBM := hBM.trans (B173.mono hBM.size)
            have hBm := hBm.trans (B173.mono hBm.size)
            have m3 := m3.old B173
            have m4 := m4.old B173
            have m11 := m11.old B173
            obtain rfl : bs93 = false := Bool.eq_false_iff.2 fun h => h3 (hbs93.1 h)
            refine s_grd 91 hF rfl rfl rfl ?_
            refine s_val hF (x_move rfl) (by decide) fun a hF => ?_
            refine s_grdn 94 hF rfl rfl (by decide) fun a hF => ?_
            refine s_grdn 94 hF rfl rfl (by decide) fun a hF => ?_
            refine s_grdn 94 hF rfl rfl (by decide) fun a hF => ?_
            refine s_grdn 94 hF rfl rfl (by decide) fun a hF => ?_
            refine s_grdn 94 hF rfl rfl (by decide) fun a hF => ?_
            refine s_grd 91 hF rfl rfl rfl ?_
            refine s_val hF (x_pick (b := false) rfl rfl) (by decide) fun a hF => ?_
            refine s_val hF (x_pick (b := false) rfl rfl) (by decide) fun a hF => ?_
            refine s_end (hK58 _ _ ?_)
            refine wp_if hF rfl ?_
            refine wp_skip ?_
            exact key29 _ _ hB m3 m4 (hF.sub _ rfl)
end Go.Proofs.Ytnnkggfhhkhnmaa
