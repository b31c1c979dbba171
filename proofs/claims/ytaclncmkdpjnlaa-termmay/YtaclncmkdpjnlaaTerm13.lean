/- Apps; awake. -/
import Derived.Test.YtaclncmkdpjnlaaTerm12
namespace Go.Proofs.Ytaclncmkdpjnlaa
open Go.RowKit Go.Shelf
set_option linter.unusedVariables false
set_option linter.unusedSimpArgs false

def PT.apps (f : PT) (xs : List PT) : PT := xs.foldl (fun t a => .two 6 t a) f
theorem apps_snoc (f : PT) (xs : List PT) (a : PT) : PT.apps f (xs ++ [a]) = .two 6 (PT.apps f xs) a := by simp [PT.apps]
theorem apps_mono (f : PT) (xs : List PT) : ∀ bs : List PT, (PT.apps f (xs ++ bs)).ok → (PT.apps f xs).ok := by
  intro bs
  induction bs generalizing xs with
  | nil => intro h; simpa using h
  | cons b bs ih =>
    intro h
    have h1 := ih (xs ++ [b]) (by simpa using h)
    rw [apps_snoc] at h1
    unfold PT.ok at h1 ⊢
    simp only [PT.size, PT.dep] at h1
    omega
theorem apps_take {f : PT} {xs : List PT} {i : Nat} (h : (PT.apps f xs).ok) : (PT.apps f (xs.take i)).ok := apps_mono f (xs.take i) (xs.drop i) (by rw [List.take_append_drop]; exact h)
def PT.appsR (f : PT) (xs : List PT) : PT := if (PT.apps f xs).ok then PT.apps f xs else .odd 0
theorem CT.mN_ess {a : CT} (h : a.ok) : (a.mN : Int) = a.ess.size ∧ (a.mD : Int) = a.ess.dep := by
  rw [a.ess_size, a.ess_dep, show a.mN = a.size from if_pos h, show a.mD = a.dep from if_pos h]; exact ⟨rfl, rfl⟩

set_option maxRecDepth 100000 in
set_option maxHeartbeats 400000 in
theorem Apps24 (c : CT) (x : C8) (cs : List CT) (v : Value) (w0 : World) (hx : RC w0 (fun k => k < w0.heap.size) c x) (hV : RK w0 (fun k => k < w0.heap.size) v cs) (hlen : cs.length ≤ 1000000) : Calls Try.prog 20 #[tv x, v] w0 fun e w' => ∃ u, e = .returned u ∧ (∃ y, u = tv y ∧ RT w' (PT.appsR c.ess (cs.map CT.ess)) y) ∧ Below w0.heap.size w0 w' := by
  obtain ⟨av, cv, hve, _⟩ := hV.form
  subst hve
  obtain ⟨ps, hps⟩ : ∃ ps, ps = cs.map CT.ess := ⟨_, rfl⟩
  have hpl : ps.length = cs.length := by rw [hps, List.length_map]
  have hB := Below.refl w0.heap.size w0
  have sB := hB.size
  refine calls_fs 54 [(0, tv x), (1, .slice av cs.length cv)] Try.func20 rfl rfl rfl rfl rfl fun a hF => ?_
  refine wp_rs fun K1 hK1 => ?_
  refine s_box (tc x) hF (by decide) rfl rfl fun w2 b2 a eb2 m2 B3 zb2 hF => ?_
  have sB3 := B3.size
  have hB := hB.trans (B3.mono hB.size)
  refine s_alloc hF (by decide) zero27 fun w4 b4 a eb4 m4 B5 zb4 hF => ?_
  have sB5 := B5.size
  have hB := hB.trans (B5.mono hB.size)
  have m2 := m2.old B5
  refine s_end (hK1 _ _ ?_)
  refine wp_rs fun K2 hK2 => ?_
  refine s_val hF (x_ldW wide27 m2 rfl rfl) (by decide) fun a hF => ?_
  refine s_callB [_] hF (enters_of Try.func51 (by kernel_rfl) rfl) rfl (by decide) (measure62 c x w4 (hx.bel hB)) fun w6 a B7 hF => ?_
  have sB7 := B7.size
  have hB := hB.trans (B7.mono hB.size)
  have m2 := m2.old B7
  have m4 := m4.old B7
  refine s_val hF (x_move rfl) (by decide) fun a hF => ?_
  refine s_val hF (x_ext rfl rfl) (by decide) fun a hF => ?_
  refine s_val hF (x_ext rfl rfl) (by decide) fun a hF => ?_
  refine s_alloc hF (by decide) zero70 fun w8 b5 a eb5 m5 B9 zb5 hF => ?_
  have sB9 := B9.size
  have hB := hB.trans (B9.mono hB.size)
  have m2 := m2.old B9
  have m4 := m4.old B9
  refine s_putW hF rfl rfl (size_wide wide70) m5 rfl (oneII _ _) fun w12 m5 o13 => ?_
  have so13 := o13.size
  have hB := hB.trans (o13.below (by omega))
  have m2 := m2.only o13 (by omega)
  have m4 := m4.only o13 (by omega)
  refine s_val hF (x_assign rfl) (by decide) fun a hF => ?_
  refine s_end (hK2 _ _ ?_)
  refine wp_seq_k fun K3 hK3 => ?_
  refine wp_rs fun K4 hK4 => ?_
  refine s_val hF (x_move rfl) (by decide) fun a hF => ?_
  refine s_val hF (x_len Try.underlying25 rfl) (by decide) fun a hF => ?_
  refine s_val hF (x_move rfl) (by decide) fun a hF => ?_
  refine s_end (hK4 _ _ ?_)
  refine wp_block ?_
  refine wp_up cs.length (fun i a w => ∃ (fl : Bool) (n d : Int), (fl = true → (PT.apps c.ess (ps.take i)).ok ∧ n = (PT.apps c.ess (ps.take i)).size ∧ d = (PT.apps c.ess (ps.take i)).dep) ∧ (fl = false → ¬ (PT.apps c.ess ps).ok) ∧ Blk w b5 67 [.int .i64 n, .int .i64 d] ∧ Blk w b2 27 (tc x) ∧ Blk w b4 27 z8 ∧ Below w0.heap.size w0 w ∧ Fs 54 a [(1, .slice av cs.length cv), (2, .pointer (some ⟨b2, 0, none⟩)), (4, .pointer (some ⟨b4, 0, none⟩)), (5, .pointer (some ⟨b5, 0, none⟩)), (6, .bool fl), (18, .slice av cs.length cv), (19, .int .i64 (cs.length : Int)), (20, .int .i64 (i : Int))]) ⟨decide c.ok, c.mN, c.mD, (fun h => by have h := of_decide_eq_true h; obtain ⟨e1, e2⟩ := CT.mN_ess h; exact ⟨c.ok_ess.2 h, e1, e2⟩), (fun h h2 => of_decide_eq_false h (c.ok_ess.1 (apps_take (i := 0) h2))), m5, m2, m4, hB, hF.sub _ rfl⟩ ?_
  have hne : w0.heap.size ≤ b2 ∧ w0.heap.size ≤ b4 ∧ w0.heap.size ≤ b5 ∧ b2 ≠ b4 ∧ b2 ≠ b5 ∧ b4 ≠ b5 := by omega
  repeat clear hF
  clear hB m2 m4 m5
  rintro i a w hi ⟨fl, n, d, hI1, hI2, m5, m2, m4, hB, hF⟩ K' hK'
  have sB := hB.size
  have h2l := m2.lt
  have h4l := m4.lt
  have h5l := m5.lt
  refine wp_rs fun K5 hK5 => ?_
  refine s_val hF (x_lss (b := decide (i < cs.length)) (decide_eq_decide.2 (by omega)) rfl rfl) (by decide) fun a hF => ?_
  refine s_end (hK5 _ _ ?_)
  refine wp_seq_k fun K6 hK6 => ?_
  refine wp_iff hF rfl (fun hc21 => ?_) (fun hc21 => ?_)
  · obtain ⟨b9, off9, c9, y, p, hve, hp, hry, hAb, hbl, hrow⟩ := hV.row (i := i) (by omega)
    cases hve
    have htk : ps.take (i + 1) = ps.take i ++ [p.ess] := take_snoc (by rw [hps, List.getElem?_map, hp]; rfl)
    refine wp_skip (hK6 _ _ ?_)
    refine wp_seq_k fun K7 hK7 => ?_
    refine wp_block ?_
    refine wp_rs fun K8 hK8 => ?_
    refine s_val hF (x_ixa rfl rfl (m_ixsK i Try.underlying25 el25.size rfl (by omega))) (by decide) fun a hF => ?_
    refine s_val hF (x_ldA wide27 (hrow _ (hB.block _ hbl)) rfl rfl) (by decide) fun a hF => ?_
    refine s_alloc hF (by decide) zero27 fun w14 b8 a eb8 m8 B15 zb8 hF => ?_
    have sB15 := B15.size
    have hB := hB.trans (B15.mono hB.size)
    have m2 := m2.old B15
    have m4 := m4.old B15
    have m5 := m5.old B15
    refine s_putW hF rfl rfl (size_wide wide27) m8 rfl hry.one fun w18 m8 o19 => ?_
    have so19 := o19.size
    have hB := hB.trans (o19.below (by omega))
    have m2 := m2.only o19 (by omega)
    have m4 := m4.only o19 (by omega)
    have m5 := m5.only o19 (by omega)
    refine s_end (hK8 _ _ ?_)
    refine wp_seq_k fun K9 hK9 => ?_
    refine wp_rs fun K10 hK10 => ?_
    refine s_val hF (x_move rfl) (by decide) fun a hF => ?_
    refine s_val hF (x_not rfl) (by decide) fun a hF => ?_
    refine s_end (hK10 _ _ ?_)
    refine wp_ifb hF rfl (fun hc25 => ?_) (fun hc25 => ?_)
    · have hfl : fl = false := by simpa using hc25
      refine wp_exit (hK3 _ _ ?_)
      refine wp_seq_k fun K11 hK11 => ?_
      refine wp_rs fun K12 hK12 => ?_
      refine s_val hF (x_move rfl) (by decide) fun a hF => ?_
      refine s_val hF (x_not rfl) (by decide) fun a hF => ?_
      refine s_end (hK12 _ _ ?_)
      refine wp_ifb hF rfl (fun hc34 => ?_) (fun hc34 => ?_)
      · have hfl2 : fl = false := by simpa using hc34
        refine wp_rs fun K13 hK13 => ?_
        refine s_val hF (x_build (vs := []) rfl (b27_ _)) (by decide) fun a hF => ?_
        refine s_putW hF rfl rfl (size_wide wide27) m4 rfl one8 fun w22 m4 o23 => ?_
        have so23 := o23.size
        have hB := hB.trans (o23.below (by omega))
        have m2 := m2.only o23 (by omega)
        have m5 := m5.only o23 (by omega)
        have m8 := m8.only o23 (by omega)
        refine s_end (hK13 _ _ ?_)
        refine wp_ret (then_ret (res_cell hF rfl rfl m4 wide27 ⟨_, rfl, ⟨⟨0, 0, emptyB, (0, 0, nilS), nilS, nilS⟩, rfl, by rw [show PT.appsR c.ess (cs.map CT.ess) = .odd 0 from if_neg (by rw [← hps]; exact hI2 hfl2)]; exact (RE_bare _ (fun _ => True)).rt⟩, hB⟩))
      · simp [hfl] at hc34
    · have hfl : fl = true := by simpa using hc25
      refine wp_skip (hK9 _ _ ?_)
      refine wp_region_lit ?_
      refine s_val hF (x_ldW wide70 m5 rfl rfl) (by decide) fun a hF => ?_
      refine s_val hF (x_ldW wide27 m8 rfl rfl) (by decide) fun a hF => ?_
      obtain ⟨hok, hn, hd⟩ := hI1 hfl
      have hk9 := hok.1
      have hk8 := hok.2
      refine s_callB [_, _] hF (enters_of Try.func52 (by kernel_rfl) rfl) rfl (by decide) (applied63 n d p y w18 (hry.bel hB) (by omega) (by omega)) fun w24 a B25 hF => ?_
      have sB25 := B25.size
      have hB := hB.trans (B25.mono hB.size)
      have m2 := m2.old B25
      have m4 := m4.old B25
      have m5 := m5.old B25
      have m8 := m8.old B25
      refine s_val hF (x_move rfl) (by decide) fun a hF => ?_
      refine s_val hF (x_ext rfl rfl) (by decide) fun a hF => ?_
      refine s_val hF (x_ext rfl rfl) (by decide) fun a hF => ?_
      refine s_putW hF rfl rfl (size_wide wide70) m5 rfl (oneII _ _) fun w28 m5 o29 => ?_
      have so29 := o29.size
      have hB := hB.trans (o29.below (by omega))
      have m2 := m2.only o29 (by omega)
      have m4 := m4.only o29 (by omega)
      have m8 := m8.only o29 (by omega)
      refine s_val hF (x_assign rfl) (by decide) fun a hF => ?_
      refine s_end (hK7 _ _ ?_)
      refine wp_region_lit ?_
      refine s_val hF (x_addn (i + 1) (by omega) (by omega) rfl rfl) (by decide) fun a hF => ?_
      refine s_val hF (x_move rfl) (by decide) fun a hF => ?_
      refine s_end (hK' _ _ (by omega) ⟨_, _, _, (fun h => by have h := of_decide_eq_true h; obtain ⟨e1, e2⟩ := CT.mN_ess h.1; rw [htk, apps_snoc]; unfold PT.ok; simp only [PT.size, PT.dep]; omega), (fun h h2 => of_decide_eq_false h (by have h3 := apps_take (i := i + 1) h2; rw [htk, apps_snoc] at h3; unfold PT.ok at h3; simp only [PT.size, PT.dep] at h3; have hpo : p.ok := p.ok_ess.1 ⟨by omega, by omega⟩; obtain ⟨e1, e2⟩ := CT.mN_ess hpo; exact ⟨hpo, by omega, by omega⟩)), m5, m2, m4, hB, hF.sub _ rfl⟩)
  · obtain rfl : i = cs.length := by omega
    rw [← hpl, List.take_length] at hI1
    refine wp_exit (hK3 _ _ ?_)
    refine wp_seq_k fun K14 hK14 => ?_
    refine wp_rs fun K15 hK15 => ?_
    refine s_val hF (x_move rfl) (by decide) fun a hF => ?_
    refine s_val hF (x_not rfl) (by decide) fun a hF => ?_
    refine s_end (hK15 _ _ ?_)
    refine wp_ifb hF rfl (fun hc34 => ?_) (fun hc34 => ?_)
    · have hfl2 : fl = false := by simpa using hc34
      refine wp_rs fun K16 hK16 => ?_
      refine s_val hF (x_build (vs := []) rfl (b27_ _)) (by decide) fun a hF => ?_
      refine s_putW hF rfl rfl (size_wide wide27) m4 rfl one8 fun w32 m4 o33 => ?_
      have so33 := o33.size
      have hB := hB.trans (o33.below (by omega))
      have m2 := m2.only o33 (by omega)
      have m5 := m5.only o33 (by omega)
      refine s_end (hK16 _ _ ?_)
      refine wp_ret (then_ret (res_cell hF rfl rfl m4 wide27 ⟨_, rfl, ⟨⟨0, 0, emptyB, (0, 0, nilS), nilS, nilS⟩, rfl, by rw [show PT.appsR c.ess (cs.map CT.ess) = .odd 0 from if_neg (by rw [← hps]; exact hI2 hfl2)]; exact (RE_bare _ (fun _ => True)).rt⟩, hB⟩))
    · have hfl2 : fl = true := by simpa using hc34
      obtain ⟨hokA, hnA, hdA⟩ := hI1 hfl2
      refine wp_skip (hK14 _ _ ?_)
      refine wp_rs fun K17 hK17 => ?_
      refine s_callR (R := fun v w' => ∃ br, v = .pointer (some ⟨br, 0, none⟩) ∧ w.heap.size ≤ br ∧ Blk w' br 108 [.int .i64 2147483647]) [] hF (enters_of Try.func45 (by kernel_rfl) rfl) rfl (by decide) (newRoom56 w) ?_
      rintro _ w34 a ⟨br, rfl, hbrw, mbr⟩ B35 hF
      have sB35 := B35.size
      have hB := hB.trans (B35.mono hB.size)
      have m2 := m2.old B35
      have m4 := m4.old B35
      have m5 := m5.old B35
      have hR : Room w34 br := ⟨_, mbr, by decide, by decide⟩
      have hbrl := hR.lt
      refine s_val hF (x_assign rfl) (by decide) fun a hF => ?_
      refine s_end (hK17 _ _ ?_)
      refine wp_rs fun K18 hK18 => ?_
      refine s_val hF (x_move rfl) (by decide) fun a hF => ?_
      refine s_val hF (x_ldW wide27 m2 rfl rfl) (by decide) fun a hF => ?_
      refine s_call (R := fun u w' => ((∃ y, u = tv y ∧ RE w' (AS (fun k => k < w0.heap.size) w34.heap.size) (c.ess) y) ∧ Room w' br) ∧ Ktw br br w34 w') hF [_, _] (enters_of Try.func46 (by kernel_rfl) rfl) rfl (by decide) (owned57 w34 br (by omega) (fun k => k < w0.heap.size) (fun k hk => ⟨by omega, by omega⟩) c x (hx.keep hB.size (fun k hk _ => hB.block k hk)) hR) ?_
      rintro _ w36 a ⟨⟨⟨y9, rfl, hy9⟩, hR⟩, k37⟩ hF
      have sk37 := k37.size
      have hB := k37.under hB (by omega)
      have m2 := m2.k2 k37 (by omega)
      have m4 := m4.k2 k37 (by omega)
      have m5 := m5.k2 k37 (by omega)
      have hy9 := hy9.valid
      refine s_alloc hF (by decide) zero27 fun w38 b10 a eb10 m10 B39 zb10 hF => ?_
      have sB39 := B39.size
      have hB := hB.trans (B39.mono hB.size)
      have m2 := m2.old B39
      have m4 := m4.old B39
      have m5 := m5.old B39
      have hR := hR.below B39
      have hy9 := hy9.below B39
      refine s_putW hF rfl rfl (size_wide wide27) m10 rfl hy9.one fun w42 m10 o43 => ?_
      have so43 := o43.size
      have hB := hB.trans (o43.below (by omega))
      have m2 := m2.only o43 (by omega)
      have m4 := m4.only o43 (by omega)
      have m5 := m5.only o43 (by omega)
      have hR := hR.only o43 (by omega)
      have hy9 := hy9.only o43 (by first | (intro h; have h2 := h.2; omega) | (intro h; rcases h.1 with h1 | h1; (have := hA _ h1; omega); (have := h.2; omega)) | (intro h; rcases h.1 with h1 | h1; (have := h1.2; omega); (have := h.2; omega)) | (intro h; rcases h.1 with h1 | h1; (exact hAS _ h1.1 rfl); (have := h.2; omega)) | (intro h; rcases h with h | h; (have := hA _ h; omega); omega) | (intro h; have := hA _ h; omega) | (intro h; rcases h with h | h; (have := h.2; omega); omega) | exact Ar.nbr | exact Ai.nbr | exact Ar.no (by omega) | exact Ai.no (by omega))
      refine s_end (hK18 _ _ ?_)
      refine wp_seq_k fun K19 hK19 => ?_
      refine wp_rs fun K20 hK20 => ?_
      refine s_val hF (x_move rfl) (by decide) fun a hF => ?_
      refine s_val hF (x_len Try.underlying25 rfl) (by decide) fun a hF => ?_
      refine s_val hF (x_move rfl) (by decide) fun a hF => ?_
      refine s_end (hK20 _ _ ?_)
      refine wp_block ?_
      refine wp_up cs.length (fun i a w => ∃ y, REx w (fun k => k ≠ br ∧ k ≠ b10 ∧ k ≠ b4 ∧ k < w.heap.size) (PT.apps c.ess (ps.take i)) y ∧ Blk w b10 27 (tc y) ∧ Blk w b4 27 z8 ∧ Room w br ∧ Below w0.heap.size w0 w ∧ Fs 54 a [(4, .pointer (some ⟨b4, 0, none⟩)), (9, .pointer (some ⟨br, 0, none⟩)), (10, .pointer (some ⟨b10, 0, none⟩)), (40, .slice av cs.length cv), (41, .int .i64 (cs.length : Int)), (42, .int .i64 (i : Int))]) ⟨y9, (RE.valid hy9).mono (fun k hk => by rcases hk with ⟨⟨hk, hk2⟩, hk3⟩; refine ⟨?_, ?_, ?_, ?_⟩ <;> (rcases hk with hk | hk <;> omega)), m10, m4, hR, hB, hF.sub _ rfl⟩ ?_
      have hne : w0.heap.size ≤ br ∧ w0.heap.size ≤ b4 ∧ w0.heap.size ≤ b10 ∧ br ≠ b4 ∧ br ≠ b10 ∧ b4 ≠ b10 := by omega
      repeat clear hF
      clear hB m4 m10 hR hy9
      rintro i a w hi ⟨y, hy, m10, m4, hR, hB, hF⟩ K' hK'
      have sB := hB.size
      have h4l := m4.lt
      have h10l := m10.lt
      have hbrl := hR.lt
      obtain ⟨top, htop⟩ : ∃ h, h = w.heap.size := ⟨_, rfl⟩
      rw [← htop] at hy
      have h1y := RE.one hy
      refine wp_rs fun K21 hK21 => ?_
      refine s_val hF (x_lss (b := decide (i < cs.length)) (decide_eq_decide.2 (by omega)) rfl rfl) (by decide) fun a hF => ?_
      refine s_end (hK21 _ _ ?_)
      refine wp_seq_k fun K22 hK22 => ?_
      refine wp_iff hF rfl (fun hc43 => ?_) (fun hc43 => ?_)
      · obtain ⟨b9, off9, c9, y2, p, hve, hp, hry, hAb, hbl, hrow⟩ := hV.row (i := i) (by omega)
        cases hve
        have htk : ps.take (i + 1) = ps.take i ++ [p.ess] := take_snoc (by rw [hps, List.getElem?_map, hp]; rfl)
        refine wp_skip (hK22 _ _ ?_)
        refine wp_seq_k fun K23 hK23 => ?_
        refine wp_block ?_
        refine wp_rs fun K24 hK24 => ?_
        refine s_val hF (x_ixa rfl rfl (m_ixsK i Try.underlying25 el25.size rfl (by omega))) (by decide) fun a hF => ?_
        refine s_val hF (x_ldA wide27 (hrow _ (hB.block _ hbl)) rfl rfl) (by decide) fun a hF => ?_
        refine s_alloc hF (by decide) zero27 fun w44 b12 a eb12 m12 B45 zb12 hF => ?_
        have sB45 := B45.size
        have hB := hB.trans (B45.mono hB.size)
        have m4 := m4.old B45
        have m10 := m10.old B45
        have hy := hy.below B45
        have hR := hR.below B45
        refine s_putW hF rfl rfl (size_wide wide27) m12 rfl hry.one fun w48 m12 o49 => ?_
        have so49 := o49.size
        have hB := hB.trans (o49.below (by omega))
        have m4 := m4.only o49 (by omega)
        have m10 := m10.only o49 (by omega)
        have hy := hy.only o49 (fun k (hk : k ≠ br ∧ k ≠ b10 ∧ k ≠ b4 ∧ k < top) => by omega)
        have hR := hR.only o49 (by omega)
        refine s_end (hK24 _ _ ?_)
        refine dk2_one (br) (b10) (ops := regOps Try.f20 15) (N := 7) (by kernel_rfl) wide_orders (by kernel_rfl) fun w50 hw50 B51 hS K25 hK25 => ?_
        have zw50 : w50.heap.size = w48.heap.size := by rw [hw50]
        have sB51 := B51.size
        have hB := hB.trans (B51.mono hB.size)
        have m4 := m4.old B51
        have m10 := m10.old B51
        have hy := hy.below B51
        have m12 := m12.old B51
        have hR := hR.below B51
        have hR_d := hR
        have m4_d := m4
        have m10_d := m10
        have hy_d := hy
        have m12_d := m12
        have hB_d := hB
        refine d_val 1 47 (op := (Go.Op.move (Go.Operand.tmp 9))) hF hS (by kernel_rfl) (fun W hW => x_move rfl) (by kernel_rfl) (by decide) fun a hF => ?_
        refine d_val 2 48 (op := (Go.Op.load 27 (Go.Operand.tmp 12))) hF hS (by kernel_rfl) (fun W hW => x_ldW wide27 (m12_d.k2 hW (by omega)) rfl rfl) (by kernel_rfl) (by decide) fun a hF => ?_
        refine d_two 0 3 (by kernel_rfl) ?_ ?_
        · refine d_op 0 (some 46) (Go.Op.load 27 (Go.Operand.tmp 10)) (by kernel_rfl) fun ty pos af => ?_
          refine s_val hF (x_ldW wide27 m10 rfl rfl) (by decide) fun a hF => ?_
          refine s_end ⟨hS, ?_⟩
          refine d_one 3 (some 49) (Go.Op.call (Go.Call.mk (Go.Callee.value (Go.Operand.func 46)) #[(Go.Operand.tmp 47), (Go.Operand.tmp 48)] #[61, 27])) (by kernel_rfl) (by kernel_rfl) fun ty pos af => ?_
          refine s_call (R := fun u w' => ((∃ z, u = tv z ∧ REx w' (AS (fun k => k < w0.heap.size) w50.heap.size) p.ess z) ∧ Room w' br) ∧ Ktw br br w50 w') hF [_, _] (enters_of Try.func46 (by kernel_rfl) rfl) rfl (by decide) (owned57 w50 br (by omega) (fun k => k < w0.heap.size) (fun k hk => ⟨by omega, by omega⟩) p y2 (hry.keep hB.size (fun k hk _ => hB.block k hk)) hR) ?_
          rintro _ w52 a ⟨⟨⟨z, rfl, hz0⟩, hR⟩, k53⟩ hF
          have sk53 := k53.size
          have hB := k53.under hB (by omega)
          have m4 := m4.k2 k53 (by omega)
          have m10 := m10.k2 k53 (by omega)
          have hy := hy.k2 k53 (fun k (hk : k ≠ br ∧ k ≠ b10 ∧ k ≠ b4 ∧ k < top) => by omega)
          have m12 := m12.k2 k53 (by omega)
          have hS := hS.trans k53 (by omega)
          have hz : REx w52 (fun k => (k < w0.heap.size ∨ w50.heap.size ≤ k) ∧ k < w52.heap.size) p.ess z := RE.valid hz0
          clear hz0
          have h1z := RE.one hz
          refine s_end ⟨hS, ?_⟩
          refine d_one 4 (some 50) (Go.Op.buildSlice 25 2 #[(0, (Go.Operand.tmp 46)), (1, (Go.Operand.tmp 49))]) (by kernel_rfl) (by kernel_rfl) fun ty pos af => ?_
          refine s_litG [tv y, tv z] el25 hF (by decide) rfl (by simp [Value.cells, tc]) rfl (by decide) (by decide) fun w54 bl a ebl ml B55 zbl hF => ?_
          have sB55 := B55.size
          have hB := hB.trans (B55.mono hB.size)
          have m4 := m4.old B55
          have m10 := m10.old B55
          have hy := hy.below B55
          have m12 := m12.old B55
          have hz := hz.below B55
          have hS := hS.below B55
          have hR := hR.below B55
          have ml : Blk w54 bl 27 (tc y ++ tc z) := by simpa [Value.cells] using ml
          refine s_end ⟨hS, ?_⟩
          refine d_val 5 51 (op := (Go.Op.build 27 #[(0, (Go.Operand.const (Go.Value.int Go.IntKind.i64 6))), (5, (Go.Operand.tmp 50))])) hF hS (by kernel_rfl) (fun W hW => x_build (vs := [(0, _), (5, _)]) rfl (b27_05 _ _ _ _ _)) (by kernel_rfl) (by decide) fun a hF => ?_
          refine d_one 6 none (Go.Op.store 27 (Go.Operand.tmp 10) (Go.Operand.tmp 51)) (by kernel_rfl) (by kernel_rfl) fun ty pos af => ?_
          have hy9 : REx w54 (fun k => k ≠ br ∧ k ≠ b10 ∧ k ≠ b4 ∧ k < w54.heap.size) (PT.apps c.ess (ps.take (i + 1))) ⟨6, 0, emptyB, (0, 0, nilS), nilS, .slice (some ⟨bl, 0, none⟩) 2 2⟩ := by
            rw [htk, apps_snoc]
            have hll := ml.lt
            refine RE_two (by decide) ⟨[y, z], ⟨by simpa using Rd.blk ml (n := 2) rfl, fun _ b hb => by simp [Value.ownBlock] at hb; subst hb; exact ⟨by omega, by omega, by omega, by omega⟩⟩, rfl, fun j x3 q e1 e2 => ?_⟩
            rcases j with _ | _ | j
            · simp at e1 e2; subst e1 e2; exact RE.mono (fun k hk => ⟨hk.1, hk.2.1, hk.2.2.1, by have := hk.2.2.2; omega⟩) hy
            · simp at e1 e2; subst e1 e2; exact RE.mono (fun k hk => by rcases hk with ⟨hk1, hk2⟩; refine ⟨?_, ?_, ?_, ?_⟩ <;> (rcases hk1 with hk1 | hk1 <;> omega)) hz
            · simp at e1
          refine s_putW hF rfl rfl (size_wide wide27) m10 rfl (RE.one hy9) fun w56 m10 o57 => ?_
          have so57 := o57.size
          have hB := hB.trans (o57.below (by omega))
          have m4 := m4.only o57 (by omega)
          have m12 := m12.only o57 (by omega)
          have hy9 := hy9.only o57 (fun k (hk : k ≠ br ∧ k ≠ b10 ∧ k ≠ b4 ∧ k < w54.heap.size) => by omega)
          have hS := hS.only o57 (by omega)
          have hR := hR.only o57 (by omega)
          refine s_end ⟨hS, ?_⟩
          refine d_end (by kernel_rfl) (hK25 _ _ ?_)
          refine hK23 _ _ ?_
          refine wp_region_lit ?_
          refine s_val hF (x_addn (i + 1) (by omega) (by omega) rfl rfl) (by decide) fun a hF => ?_
          refine s_val hF (x_move rfl) (by decide) fun a hF => ?_
          refine s_end (hK' _ _ (by omega) ⟨_, hy9.mono (fun k hk => ⟨hk.1, hk.2.1, hk.2.2.1, by have := hk.2.2.2; omega⟩), m10, m4, hR, hB, hF.sub _ rfl⟩)
        · refine d_op 3 (some 49) (Go.Op.call (Go.Call.mk (Go.Callee.value (Go.Operand.func 46)) #[(Go.Operand.tmp 47), (Go.Operand.tmp 48)] #[61, 27])) (by kernel_rfl) fun ty pos af => ?_
          refine s_call (R := fun u w' => ((∃ z, u = tv z ∧ REx w' (AS (fun k => k < w0.heap.size) w50.heap.size) p.ess z) ∧ Room w' br) ∧ Ktw br br w50 w') hF [_, _] (enters_of Try.func46 (by kernel_rfl) rfl) rfl (by decide) (owned57 w50 br (by omega) (fun k => k < w0.heap.size) (fun k hk => ⟨by omega, by omega⟩) p y2 (hry.keep hB.size (fun k hk _ => hB.block k hk)) hR) ?_
          rintro _ w58 a ⟨⟨⟨z, rfl, hz0⟩, hR⟩, k59⟩ hF
          have sk59 := k59.size
          have hB := k59.under hB (by omega)
          have m4 := m4.k2 k59 (by omega)
          have m10 := m10.k2 k59 (by omega)
          have hy := hy.k2 k59 (fun k (hk : k ≠ br ∧ k ≠ b10 ∧ k ≠ b4 ∧ k < top) => by omega)
          have m12 := m12.k2 k59 (by omega)
          have hS := hS.trans k59 (by omega)
          have hz : REx w58 (fun k => (k < w0.heap.size ∨ w50.heap.size ≤ k) ∧ k < w58.heap.size) p.ess z := RE.valid hz0
          clear hz0
          have h1z := RE.one hz
          refine s_end ⟨hS, ?_⟩
          refine d_one 0 (some 46) (Go.Op.load 27 (Go.Operand.tmp 10)) (by kernel_rfl) (by kernel_rfl) fun ty pos af => ?_
          refine s_val hF (x_ldW wide27 m10 rfl rfl) (by decide) fun a hF => ?_
          refine s_end ⟨hS, ?_⟩
          refine d_one 4 (some 50) (Go.Op.buildSlice 25 2 #[(0, (Go.Operand.tmp 46)), (1, (Go.Operand.tmp 49))]) (by kernel_rfl) (by kernel_rfl) fun ty pos af => ?_
          refine s_litG [tv y, tv z] el25 hF (by decide) rfl (by simp [Value.cells, tc]) rfl (by decide) (by decide) fun w60 bl a ebl ml B61 zbl hF => ?_
          have sB61 := B61.size
          have hB := hB.trans (B61.mono hB.size)
          have m4 := m4.old B61
          have m10 := m10.old B61
          have hy := hy.below B61
          have m12 := m12.old B61
          have hz := hz.below B61
          have hS := hS.below B61
          have hR := hR.below B61
          have ml : Blk w60 bl 27 (tc y ++ tc z) := by simpa [Value.cells] using ml
          refine s_end ⟨hS, ?_⟩
          refine d_val 5 51 (op := (Go.Op.build 27 #[(0, (Go.Operand.const (Go.Value.int Go.IntKind.i64 6))), (5, (Go.Operand.tmp 50))])) hF hS (by kernel_rfl) (fun W hW => x_build (vs := [(0, _), (5, _)]) rfl (b27_05 _ _ _ _ _)) (by kernel_rfl) (by decide) fun a hF => ?_
          refine d_one 6 none (Go.Op.store 27 (Go.Operand.tmp 10) (Go.Operand.tmp 51)) (by kernel_rfl) (by kernel_rfl) fun ty pos af => ?_
          have hy9 : REx w60 (fun k => k ≠ br ∧ k ≠ b10 ∧ k ≠ b4 ∧ k < w60.heap.size) (PT.apps c.ess (ps.take (i + 1))) ⟨6, 0, emptyB, (0, 0, nilS), nilS, .slice (some ⟨bl, 0, none⟩) 2 2⟩ := by
            rw [htk, apps_snoc]
            have hll := ml.lt
            refine RE_two (by decide) ⟨[y, z], ⟨by simpa using Rd.blk ml (n := 2) rfl, fun _ b hb => by simp [Value.ownBlock] at hb; subst hb; exact ⟨by omega, by omega, by omega, by omega⟩⟩, rfl, fun j x3 q e1 e2 => ?_⟩
            rcases j with _ | _ | j
            · simp at e1 e2; subst e1 e2; exact RE.mono (fun k hk => ⟨hk.1, hk.2.1, hk.2.2.1, by have := hk.2.2.2; omega⟩) hy
            · simp at e1 e2; subst e1 e2; exact RE.mono (fun k hk => by rcases hk with ⟨hk1, hk2⟩; refine ⟨?_, ?_, ?_, ?_⟩ <;> (rcases hk1 with hk1 | hk1 <;> omega)) hz
            · simp at e1
          refine s_putW hF rfl rfl (size_wide wide27) m10 rfl (RE.one hy9) fun w62 m10 o63 => ?_
          have so63 := o63.size
          have hB := hB.trans (o63.below (by omega))
          have m4 := m4.only o63 (by omega)
          have m12 := m12.only o63 (by omega)
          have hy9 := hy9.only o63 (fun k (hk : k ≠ br ∧ k ≠ b10 ∧ k ≠ b4 ∧ k < w60.heap.size) => by omega)
          have hS := hS.only o63 (by omega)
          have hR := hR.only o63 (by omega)
          refine s_end ⟨hS, ?_⟩
          refine d_end (by kernel_rfl) (hK25 _ _ ?_)
          refine hK23 _ _ ?_
          refine wp_region_lit ?_
          refine s_val hF (x_addn (i + 1) (by omega) (by omega) rfl rfl) (by decide) fun a hF => ?_
          refine s_val hF (x_move rfl) (by decide) fun a hF => ?_
          refine s_end (hK' _ _ (by omega) ⟨_, hy9.mono (fun k hk => ⟨hk.1, hk.2.1, hk.2.2.1, by have := hk.2.2.2; omega⟩), m10, m4, hR, hB, hF.sub _ rfl⟩)
      · obtain rfl : i = cs.length := by omega
        rw [← hpl, List.take_length] at hy
        refine wp_exit (hK19 _ _ ?_)
        refine wp_rs fun K26 hK26 => ?_
        refine s_val hF (x_ldW wide27 m10 rfl rfl) (by decide) fun a hF => ?_
        refine s_putW hF rfl rfl (size_wide wide27) m4 rfl h1y fun w66 m4 o67 => ?_
        have so67 := o67.size
        have hB := hB.trans (o67.below (by omega))
        have m10 := m10.only o67 (by omega)
        have hy := hy.only o67 (fun k (hk : k ≠ br ∧ k ≠ b10 ∧ k ≠ b4 ∧ k < top) => by omega)
        have hR := hR.only o67 (by omega)
        refine s_end (hK26 _ _ ?_)
        refine wp_ret (res_cell hF rfl rfl m4 wide27 ⟨_, rfl, ⟨y, rfl, by rw [show PT.appsR c.ess (cs.map CT.ess) = PT.apps c.ess ps from by rw [← hps]; exact if_pos hokA]; exact RE.rt hy⟩, hB⟩)
end Go.Proofs.Ytaclncmkdpjnlaa
