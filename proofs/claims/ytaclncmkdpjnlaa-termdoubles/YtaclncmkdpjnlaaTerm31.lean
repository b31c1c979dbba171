/- Apps; awake. -/
import Derived.Test.YtaclncmkdpjnlaaTerm12
import Derived.Test.YtaclncmkdpjnlaaTermB
namespace Go.Proofs.Ytaclncmkdpjnlaa
open Go.RowKit Go.Shelf
set_option linter.unusedVariables false
set_option linter.unusedSimpArgs false

def PT.apps (f : PT) (xs : List PT) : PT := xs.foldl (fun t a => .two 6 t a) f
theorem apps_snoc (f : PT) (xs : List PT) (a : PT) : PT.apps f (xs ++ [a]) = .two 6 (PT.apps f xs) a := by simp [PT.apps]
theorem apps_mono (f : PT) (xs : List PT) : ∀ bs : List PT, (PT.apps f (xs ++ bs)).ok → (PT.apps f xs).ok := by
  intro bs
  induction bs generalizing xs with
  | nil => intro h; simpa using h
  | cons b bs ih =>
    intro h
    have h1 := ih (xs ++ [b]) (by simpa using h)
    rw [apps_snoc] at h1
    unfold PT.ok at h1 ⊢
    simp only [PT.size, PT.dep] at h1
    omega
theorem apps_take {f : PT} {xs : List PT} {i : Nat} (h : (PT.apps f xs).ok) : (PT.apps f (xs.take i)).ok := apps_mono f (xs.take i) (xs.drop i) (by rw [List.take_append_drop]; exact h)
def PT.appsR (f : PT) (xs : List PT) : PT := if (PT.apps f xs).ok then PT.apps f xs else .odd 0
theorem CT.mN_ess {a : CT} (h : a.ok) : (a.mN : Int) = a.ess.size ∧ (a.mD : Int) = a.ess.dep := by
  rw [a.ess_size, a.ess_dep, show a.mN = a.size from if_pos h, show a.mD = a.dep from if_pos h]; exact ⟨rfl, rfl⟩

set_option maxRecDepth 100000 in
set_option maxHeartbeats 1600000 in
theorem Apps24t (A : Nat → Prop) (c : CT) (x : C8) (cs : List CT) (v : Value) (w0 : World) (hA : ∀ k, A k → k < w0.heap.size) (hxA : RC w0 A c x) (hV : RK w0 A v cs) (hlen : cs.length ≤ 1000000) : Calls Try.prog 20 #[tv x, v] w0 fun e w' => ∃ u, e = .returned u ∧ (∃ y, u = tv y ∧ RE w' (AS A w0.heap.size) (PT.appsR c.ess (cs.map CT.ess)) y) ∧ Below w0.heap.size w0 w' := by
  have hx := hxA.mono hA
  obtain ⟨av, cv, hve, _⟩ := hV.form
  subst hve
  obtain ⟨ps, hps⟩ : ∃ ps, ps = cs.map CT.ess := ⟨_, rfl⟩
  have hpl : ps.length = cs.length := by rw [hps, List.length_map]
  have hB := Below.refl w0.heap.size w0
  have sB := hB.size
  refine calls_fs 54 [(0, tv x), (1, .slice av cs.length cv)] Try.func20 rfl rfl rfl rfl rfl fun a hF => ?_
  refine wp_rs fun K1 hK1 => ?_
  refine s_box (tc x) hF (by decide) rfl rfl fun w2 b2 a eb2 m2 B3 zb2 hF => ?_
  have sB3 := B3.size
  have hB := hB.trans (B3.mono hB.size)
  refine s_alloc hF (by decide) zero27 fun w4 b4 a eb4 m4 B5 zb4 hF => ?_
  have sB5 := B5.size
  have hB := hB.trans (B5.mono hB.size)
  have m2 := m2.old B5
  refine s_end (hK1 _ _ ?_)
  refine wp_rs fun K2 hK2 => ?_
  refine s_val hF (x_ldW wide27 m2 rfl rfl) (by decide) fun a hF => ?_
  refine s_callB [_] hF (enters_of Try.func51 (by kernel_rfl) rfl) rfl (by decide) (measure62 c x w4 (hx.bel hB)) fun w6 a B7 hF => ?_
  have sB7 := B7.size
  have hB := hB.trans (B7.mono hB.size)
  have m2 := m2.old B7
  have m4 := m4.old B7
  refine s_val hF (x_move rfl) (by decide) fun a hF => ?_
  refine s_val hF (x_ext rfl rfl) (by decide) fun a hF => ?_
  refine s_val hF (x_ext rfl rfl) (by decide) fun a hF => ?_
  refine s_alloc hF (by decide) zero70 fun w8 b5 a eb5 m5 B9 zb5 hF => ?_
  have sB9 := B9.size
  have hB := hB.trans (B9.mono hB.size)
  have m2 := m2.old B9
  have m4 := m4.old B9
  refine s_putW hF rfl rfl (size_wide wide70) m5 rfl (oneII _ _) fun w12 m5 o13 => ?_
  have so13 := o13.size
  have hB := hB.trans (o13.below (by omega))
  have m2 := m2.only o13 (by omega)
  have m4 := m4.only o13 (by omega)
  refine s_val hF (x_assign rfl) (by decide) fun a hF => ?_
  refine s_end (hK2 _ _ ?_)
  refine wp_seq_k fun K3 hK3 => ?_
  refine wp_rs fun K4 hK4 => ?_
  refine s_val hF (x_move rfl) (by decide) fun a hF => ?_
  refine s_val hF (x_len Try.underlying25 rfl) (by decide) fun a hF => ?_
  refine s_val hF (x_move rfl) (by decide) fun a hF => ?_
  refine s_end (hK4 _ _ ?_)
  refine wp_block ?_
  refine wp_up cs.length (fun i a w => ∃ (fl : Bool) (n d : Int), (fl = true → (PT.apps c.ess (ps.take i)).ok ∧ n = (PT.apps c.ess (ps.take i)).size ∧ d = (PT.apps c.ess (ps.take i)).dep) ∧ (fl = false → ¬ (PT.apps c.ess ps).ok) ∧ Blk w b5 67 [.int .i64 n, .int .i64 d] ∧ Blk w b2 27 (tc x) ∧ Blk w b4 27 z8 ∧ Below w0.heap.size w0 w ∧ Fs 54 a [(1, .slice av cs.length cv), (2, .pointer (some ⟨b2, 0, none⟩)), (4, .pointer (some ⟨b4, 0, none⟩)), (5, .pointer (some ⟨b5, 0, none⟩)), (6, .bool fl), (18, .slice av cs.length cv), (19, .int .i64 (cs.length : Int)), (20, .int .i64 (i : Int))]) ⟨decide c.ok, c.mN, c.mD, (fun h => by have h := of_decide_eq_true h; obtain ⟨e1, e2⟩ := CT.mN_ess h; exact ⟨c.ok_ess.2 h, e1, e2⟩), (fun h h2 => of_decide_eq_false h (c.ok_ess.1 (apps_take (i := 0) h2))), m5, m2, m4, hB, hF.sub _ rfl⟩ ?_
  have hne : w0.heap.size ≤ b2 ∧ w0.heap.size ≤ b4 ∧ w0.heap.size ≤ b5 ∧ b2 ≠ b4 ∧ b2 ≠ b5 ∧ b4 ≠ b5 := by omega
  repeat clear hF
  clear hB m2 m4 m5
  rintro i a w hi ⟨fl, n, d, hI1, hI2, m5, m2, m4, hB, hF⟩ K' hK'
  have sB := hB.size
  have h2l := m2.lt
  have h4l := m4.lt
  have h5l := m5.lt
  refine wp_rs fun K5 hK5 => ?_
  refine s_val hF (x_lss (b := decide (i < cs.length)) (decide_eq_decide.2 (by omega)) rfl rfl) (by decide) fun a hF => ?_
  refine s_end (hK5 _ _ ?_)
  refine wp_seq_k fun K6 hK6 => ?_
  refine wp_iff hF rfl (fun hc21 => ?_) (fun hc21 => ?_)
  · obtain ⟨b9, off9, c9, y, p, hve, hp, hry, hAb, hbl, hrow⟩ := hV.row (i := i) (by omega)
    cases hve
    have htk : ps.take (i + 1) = ps.take i ++ [p.ess] := take_snoc (by rw [hps, List.getElem?_map, hp]; rfl)
    refine wp_skip (hK6 _ _ ?_)
    refine wp_seq_k fun K7 hK7 => ?_
    refine wp_block ?_
    refine wp_rs fun K8 hK8 => ?_
    refine s_val hF (x_ixa rfl rfl (m_ixsK i Try.underlying25 el25.size rfl (by omega))) (by decide) fun a hF => ?_
    refine s_val hF (x_ldA wide27 (hrow _ (hB.block _ hbl)) rfl rfl) (by decide) fun a hF => ?_
    refine s_alloc hF (by decide) zero27 fun w14 b8 a eb8 m8 B15 zb8 hF => ?_
    have sB15 := B15.size
    have hB := hB.trans (B15.mono hB.size)
    have m2 := m2.old B15
    have m4 := m4.old B15
    have m5 := m5.old B15
    refine s_putW hF rfl rfl (size_wide wide27) m8 rfl hry.one fun w18 m8 o19 => ?_
    have so19 := o19.size
    have hB := hB.trans (o19.below (by omega))
    have m2 := m2.only o19 (by omega)
    have m4 := m4.only o19 (by omega)
    have m5 := m5.only o19 (by omega)
    refine s_end (hK8 _ _ ?_)
    refine wp_seq_k fun K9 hK9 => ?_
    refine wp_rs fun K10 hK10 => ?_
    refine s_val hF (x_move rfl) (by decide) fun a hF => ?_
    refine s_val hF (x_not rfl) (by decide) fun a hF => ?_
    refine s_end (hK10 _ _ ?_)
    refine wp_ifb hF rfl (fun hc25 => ?_) (fun hc25 => ?_)
    · have hfl : fl = false := by simpa using hc25
      refine wp_exit (hK3 _ _ ?_)
      refine wp_seq_k fun K11 hK11 => ?_
      refine wp_rs fun K12 hK12 => ?_
      refine s_val hF (x_move rfl) (by decide) fun a hF => ?_
      refine s_val hF (x_not rfl) (by decide) fun a hF => ?_
      refine s_end (hK12 _ _ ?_)
      refine wp_ifb hF rfl (fun hc34 => ?_) (fun hc34 => ?_)
      · have hfl2 : fl = false := by simpa using hc34
        refine wp_rs fun K13 hK13 => ?_
        refine s_val hF (x_build (vs := []) rfl (b27_ _)) (by decide) fun a hF => ?_
        refine s_putW hF rfl rfl (size_wide wide27) m4 rfl one8 fun w22 m4 o23 => ?_
        have so23 := o23.size
        have hB := hB.trans (o23.below (by omega))
        have m2 := m2.only o23 (by omega)
        have m5 := m5.only o23 (by omega)
        have m8 := m8.only o23 (by omega)
        refine s_end (hK13 _ _ ?_)
        refine wp_ret (then_ret (res_cell hF rfl rfl m4 wide27 ⟨_, rfl, ⟨⟨0, 0, emptyB, (0, 0, nilS), nilS, nilS⟩, rfl, by rw [show PT.appsR c.ess (cs.map CT.ess) = .odd 0 from if_neg (by rw [← hps]; exact hI2 hfl2)]; exact RE_bare _ _⟩, hB⟩))
      · simp [hfl] at hc34
    · have hfl : fl = true := by simpa using hc25
      refine wp_skip (hK9 _ _ ?_)
      refine wp_region_lit ?_
      refine s_val hF (x_ldW wide70 m5 rfl rfl) (by decide) fun a hF => ?_
      refine s_val hF (x_ldW wide27 m8 rfl rfl) (by decide) fun a hF => ?_
      obtain ⟨hok, hn, hd⟩ := hI1 hfl
      have hk9 := hok.1
      have hk8 := hok.2
      refine s_callB [_, _] hF (enters_of Try.func52 (by kernel_rfl) rfl) rfl (by decide) (applied63 n d p y w18 ((hry.mono hA).bel hB) (by omega) (by omega)) fun w24 a B25 hF => ?_
      have sB25 := B25.size
      have hB := hB.trans (B25.mono hB.size)
      have m2 := m2.old B25
      have m4 := m4.old B25
      have m5 := m5.old B25
      have m8 := m8.old B25
      refine s_val hF (x_move rfl) (by decide) fun a hF => ?_
      refine s_val hF (x_ext rfl rfl) (by decide) fun a hF => ?_
      refine s_val hF (x_ext rfl rfl) (by decide) fun a hF => ?_
      refine s_putW hF rfl rfl (size_wide wide70) m5 rfl (oneII _ _) fun w28 m5 o29 => ?_
      have so29 := o29.size
      have hB := hB.trans (o29.below (by omega))
      have m2 := m2.only o29 (by omega)
      have m4 := m4.only o29 (by omega)
      have m8 := m8.only o29 (by omega)
      refine s_val hF (x_assign rfl) (by decide) fun a hF => ?_
      refine s_end (hK7 _ _ ?_)
      refine wp_region_lit ?_
      refine s_val hF (x_addn (i + 1) (by omega) (by omega) rfl rfl) (by decide) fun a hF => ?_
      refine s_val hF (x_move rfl) (by decide) fun a hF => ?_
      refine s_end (hK' _ _ (by omega) ⟨_, _, _, (fun h => by have h := of_decide_eq_true h; obtain ⟨e1, e2⟩ := CT.mN_ess h.1; rw [htk, apps_snoc]; unfold PT.ok; simp only [PT.size, PT.dep]; omega), (fun h h2 => of_decide_eq_false h (by have h3 := apps_take (i := i + 1) h2; rw [htk, apps_snoc] at h3; unfold PT.ok at h3; simp only [PT.size, PT.dep] at h3; have hpo : p.ok := p.ok_ess.1 ⟨by omega, by omega⟩; obtain ⟨e1, e2⟩ := CT.mN_ess hpo; exact ⟨hpo, by omega, by omega⟩)), m5, m2, m4, hB, hF.sub _ rfl⟩)
  · obtain rfl : i = cs.length := by omega
    rw [← hpl, List.take_length] at hI1
    refine wp_exit (hK3 _ _ ?_)
    refine wp_seq_k fun K14 hK14 => ?_
    refine wp_rs fun K15 hK15 => ?_
    refine s_val hF (x_move rfl) (by decide) fun a hF => ?_
    refine s_val hF (x_not rfl) (by decide) fun a hF => ?_
    refine s_end (hK15 _ _ ?_)
    refine wp_ifb hF rfl (fun hc34 => ?_) (fun hc34 => ?_)
    · have hfl2 : fl = false := by simpa using hc34
      refine wp_rs fun K16 hK16 => ?_
      refine s_val hF (x_build (vs := []) rfl (b27_ _)) (by decide) fun a hF => ?_
      refine s_putW hF rfl rfl (size_wide wide27) m4 rfl one8 fun w32 m4 o33 => ?_
      have so33 := o33.size
      have hB := hB.trans (o33.below (by omega))
      have m2 := m2.only o33 (by omega)
      have m5 := m5.only o33 (by omega)
      refine s_end (hK16 _ _ ?_)
      refine wp_ret (then_ret (res_cell hF rfl rfl m4 wide27 ⟨_, rfl, ⟨⟨0, 0, emptyB, (0, 0, nilS), nilS, nilS⟩, rfl, by rw [show PT.appsR c.ess (cs.map CT.ess) = .odd 0 from if_neg (by rw [← hps]; exact hI2 hfl2)]; exact RE_bare _ _⟩, hB⟩))
    · have hfl2 : fl = true := by simpa using hc34
      obtain ⟨hokA, hnA, hdA⟩ := hI1 hfl2
      refine wp_skip (hK14 _ _ ?_)
      refine wp_rs fun K17 hK17 => ?_
      refine s_callR (R := fun v w' => ∃ br, v = .pointer (some ⟨br, 0, none⟩) ∧ w.heap.size ≤ br ∧ Blk w' br 108 [.int .i64 2147483647]) [] hF (enters_of Try.func45 (by kernel_rfl) rfl) rfl (by decide) (newRoom56 w) ?_
      rintro _ w34 a ⟨br, rfl, hbrw, mbr⟩ B35 hF
      have sB35 := B35.size
      have hB := hB.trans (B35.mono hB.size)
      have m2 := m2.old B35
      have m4 := m4.old B35
      have m5 := m5.old B35
      have hR : Room w34 br := ⟨_, mbr, by decide, by decide⟩
      have hbrl := hR.lt
      refine s_val hF (x_assign rfl) (by decide) fun a hF => ?_
      refine s_end (hK17 _ _ ?_)
      refine wp_rs fun K18 hK18 => ?_
      refine s_val hF (x_move rfl) (by decide) fun a hF => ?_
      refine s_val hF (x_ldW wide27 m2 rfl rfl) (by decide) fun a hF => ?_
      refine s_call (R := fun u w' => ((∃ y, u = tv y ∧ RE w' (AS A w34.heap.size) (c.ess) y) ∧ Room w' br) ∧ Ktw br br w34 w') hF [_, _] (enters_of Try.func46 (by kernel_rfl) rfl) rfl (by decide) (owned57 w34 br (by omega) A (fun k hk => by have := hA k hk; exact ⟨by omega, by omega⟩) c x (hxA.keep hB.size (fun k hk _ => hB.block k (hA k hk))) hR) ?_
      rintro _ w36 a ⟨⟨⟨y9, rfl, hy9⟩, hR⟩, k37⟩ hF
      have sk37 := k37.size
      have hB := k37.under hB (by omega)
      have m2 := m2.k2 k37 (by omega)
      have m4 := m4.k2 k37 (by omega)
      have m5 := m5.k2 k37 (by omega)
      have hy9 := hy9.valid
      refine s_alloc hF (by decide) zero27 fun w38 b10 a eb10 m10 B39 zb10 hF => ?_
      have sB39 := B39.size
      have hB := hB.trans (B39.mono hB.size)
      have m2 := m2.old B39
      have m4 := m4.old B39
      have m5 := m5.old B39
      have hR := hR.below B39
      have hy9 := hy9.below B39
      refine s_putW hF rfl rfl (size_wide wide27) m10 rfl hy9.one fun w42 m10 o43 => ?_
      have so43 := o43.size
      have hB := hB.trans (o43.below (by omega))
      have m2 := m2.only o43 (by omega)
      have m4 := m4.only o43 (by omega)
      have m5 := m5.only o43 (by omega)
      have hR := hR.only o43 (by omega)
      have hy9 := hy9.only o43 (by intro h; rcases h.1 with h1 | h1; (have := hA _ h1; omega); omega)
      refine s_end (hK18 _ _ ?_)
      refine wp_seq_k fun K19 hK19 => ?_
      refine wp_rs fun K20 hK20 => ?_
      refine s_val hF (x_move rfl) (by decide) fun a hF => ?_
      refine s_val hF (x_len Try.underlying25 rfl) (by decide) fun a hF => ?_
      refine s_val hF (x_move rfl) (by decide) fun a hF => ?_
      refine s_end (hK20 _ _ ?_)
      refine wp_block ?_
      refine wp_up cs.length (fun i a w => ∃ y, REx w (fun k => (k ≠ br ∧ k ≠ b10 ∧ k ≠ b4 ∧ k < w.heap.size) ∧ (A k ∨ w0.heap.size ≤ k)) (PT.apps c.ess (ps.take i)) y ∧ Blk w b10 27 (tc y) ∧ Blk w b4 27 z8 ∧ Room w br ∧ Below w0.heap.size w0 w ∧ Fs 54 a [(4, .pointer (some ⟨b4, 0, none⟩)), (9, .pointer (some ⟨br, 0, none⟩)), (10, .pointer (some ⟨b10, 0, none⟩)), (40, .slice av cs.length cv), (41, .int .i64 (cs.length : Int)), (42, .int .i64 (i : Int))]) ⟨y9, (RE.valid hy9).mono (fun k hk => by rcases hk with ⟨⟨hk, hk2⟩, hk3⟩; rcases hk with hk | hk; (have := hA _ hk; exact ⟨⟨by omega, by omega, by omega, by omega⟩, .inl hk⟩); exact ⟨⟨by omega, by omega, by omega, by omega⟩, .inr (by omega)⟩), m10, m4, hR, hB, hF.sub _ rfl⟩ ?_
      have hne : w0.heap.size ≤ br ∧ w0.heap.size ≤ b4 ∧ w0.heap.size ≤ b10 ∧ br ≠ b4 ∧ br ≠ b10 ∧ b4 ≠ b10 := by omega
      repeat clear hF
      clear hB m4 m10 hR hy9
      rintro i a w hi ⟨y, hy, m10, m4, hR, hB, hF⟩ K' hK'
      have sB := hB.size
      have h4l := m4.lt
      have h10l := m10.lt
      have hbrl := hR.lt
      obtain ⟨top, htop⟩ : ∃ h, h = w.heap.size := ⟨_, rfl⟩
      rw [← htop] at hy
      have h1y := RE.one hy
      refine wp_rs fun K21 hK21 => ?_
      refine s_val hF (x_lss (b := decide (i < cs.length)) (decide_eq_decide.2 (by omega)) rfl rfl) (by decide) fun a hF => ?_
      refine s_end (hK21 _ _ ?_)
      refine wp_seq_k fun K22 hK22 => ?_
      refine wp_iff hF rfl (fun hc43 => ?_) (fun hc43 => ?_)
      · obtain ⟨b9, off9, c9, y2, p, hve, hp, hry, hAb, hbl, hrow⟩ := hV.row (i := i) (by omega)
        cases hve
        have htk : ps.take (i + 1) = ps.take i ++ [p.ess] := take_snoc (by rw [hps, List.getElem?_map, hp]; rfl)
        refine wp_skip (hK22 _ _ ?_)
        refine wp_seq_k fun K23 hK23 => ?_
        refine wp_block ?_
        refine wp_rs fun K24 hK24 => ?_
        refine s_val hF (x_ixa rfl rfl (m_ixsK i Try.underlying25 el25.size rfl (by omega))) (by decide) fun a hF => ?_
        refine s_val hF (x_ldA wide27 (hrow _ (hB.block _ hbl)) rfl rfl) (by decide) fun a hF => ?_
        refine s_alloc hF (by decide) zero27 fun w44 b12 a eb12 m12 B45 zb12 hF => ?_
        have sB45 := B45.size
        have hB := hB.trans (B45.mono hB.size)
        have m4 := m4.old B45
        have m10 := m10.old B45
        have hy := hy.below B45
        have hR := hR.below B45
        refine s_putW hF rfl rfl (size_wide wide27) m12 rfl hry.one fun w48 m12 o49 => ?_
        have so49 := o49.size
        have hB := hB.trans (o49.below (by omega))
        have m4 := m4.only o49 (by omega)
        have m10 := m10.only o49 (by omega)
        have hy := hy.only o49 (fun k (hk : (k ≠ br ∧ k ≠ b10 ∧ k ≠ b4 ∧ k < top) ∧ (A k ∨ w0.heap.size ≤ k)) => by omega)
        have hR := hR.only o49 (by omega)
        refine s_end (hK24 _ _ ?_)
        refine dk2_one (br) (b10) (ops := regOps Try.f20 15) (N := 7) (by kernel_rfl) wide_orders (by kernel_rfl) fun w50 hw50 B51 hS K25 hK25 => ?_
        have zw50 : w50.heap.size = w48.heap.size := by rw [hw50]
        have sB51 := B51.size
        have hB := hB.trans (B51.mono hB.size)
        have m4 := m4.old B51
        have m10 := m10.old B51
        have hy := hy.below B51
        have m12 := m12.old B51
        have hR := hR.below B51
        have hR_d := hR
        have m4_d := m4
        have m10_d := m10
        have hy_d := hy
        have m12_d := m12
        have hB_d := hB
        refine d_val 1 47 (op := (Go.Op.move (Go.Operand.tmp 9))) hF hS (by kernel_rfl) (fun W hW => x_move rfl) (by kernel_rfl) (by decide) fun a hF => ?_
        refine d_val 2 48 (op := (Go.Op.load 27 (Go.Operand.tmp 12))) hF hS (by kernel_rfl) (fun W hW => x_ldW wide27 (m12_d.k2 hW (by omega)) rfl rfl) (by kernel_rfl) (by decide) fun a hF => ?_
        refine d_two 0 3 (by kernel_rfl) ?_ ?_
        · refine d_op 0 (some 46) (Go.Op.load 27 (Go.Operand.tmp 10)) (by kernel_rfl) fun ty pos af => ?_
          refine s_val hF (x_ldW wide27 m10 rfl rfl) (by decide) fun a hF => ?_
          refine s_end ⟨hS, ?_⟩
          refine d_one 3 (some 49) (Go.Op.call (Go.Call.mk (Go.Callee.value (Go.Operand.func 46)) #[(Go.Operand.tmp 47), (Go.Operand.tmp 48)] #[61, 27])) (by kernel_rfl) (by kernel_rfl) fun ty pos af => ?_
          refine s_call (R := fun u w' => ((∃ z, u = tv z ∧ REx w' (AS A w50.heap.size) p.ess z) ∧ Room w' br) ∧ Ktw br br w50 w') hF [_, _] (enters_of Try.func46 (by kernel_rfl) rfl) rfl (by decide) (owned57 w50 br (by omega) A (fun k hk => by have := hA k hk; exact ⟨by omega, by omega⟩) p y2 (hry.keep hB.size (fun k hk _ => hB.block k (hA k hk))) hR) ?_
          rintro _ w52 a ⟨⟨⟨z, rfl, hz0⟩, hR⟩, k53⟩ hF
          have sk53 := k53.size
          have hB := k53.under hB (by omega)
          have m4 := m4.k2 k53 (by omega)
          have m10 := m10.k2 k53 (by omega)
          have hy := hy.k2 k53 (fun k (hk : (k ≠ br ∧ k ≠ b10 ∧ k ≠ b4 ∧ k < top) ∧ (A k ∨ w0.heap.size ≤ k)) => by omega)
          have m12 := m12.k2 k53 (by omega)
          have hS := hS.trans k53 (by omega)
          have hz : REx w52 (fun k => ((k < w0.heap.size ∧ A k) ∨ w50.heap.size ≤ k) ∧ k < w52.heap.size) p.ess z := (RE.valid hz0).mono (fun k hk => ⟨hk.1.elim (fun h => .inl ⟨hA k h, h⟩) .inr, hk.2⟩)
          clear hz0
          have h1z := RE.one hz
          refine s_end ⟨hS, ?_⟩
          refine d_one 4 (some 50) (Go.Op.buildSlice 25 2 #[(0, (Go.Operand.tmp 46)), (1, (Go.Operand.tmp 49))]) (by kernel_rfl) (by kernel_rfl) fun ty pos af => ?_
          refine s_litG [tv y, tv z] el25 hF (by decide) rfl (by simp [Value.cells, tc]) rfl (by decide) (by decide) fun w54 bl a ebl ml B55 zbl hF => ?_
          have sB55 := B55.size
          have hB := hB.trans (B55.mono hB.size)
          have m4 := m4.old B55
          have m10 := m10.old B55
          have hy := hy.below B55
          have m12 := m12.old B55
          have hz := hz.below B55
          have hS := hS.below B55
          have hR := hR.below B55
          have ml : Blk w54 bl 27 (tc y ++ tc z) := by simpa [Value.cells] using ml
          refine s_end ⟨hS, ?_⟩
          refine d_val 5 51 (op := (Go.Op.build 27 #[(0, (Go.Operand.const (Go.Value.int Go.IntKind.i64 6))), (5, (Go.Operand.tmp 50))])) hF hS (by kernel_rfl) (fun W hW => x_build (vs := [(0, _), (5, _)]) rfl (b27_05 _ _ _ _ _)) (by kernel_rfl) (by decide) fun a hF => ?_
          refine d_one 6 none (Go.Op.store 27 (Go.Operand.tmp 10) (Go.Operand.tmp 51)) (by kernel_rfl) (by kernel_rfl) fun ty pos af => ?_
          have hy9 : REx w54 (fun k => (k ≠ br ∧ k ≠ b10 ∧ k ≠ b4 ∧ k < w54.heap.size) ∧ (A k ∨ w0.heap.size ≤ k)) (PT.apps c.ess (ps.take (i + 1))) ⟨6, 0, emptyB, (0, 0, nilS), nilS, .slice (some ⟨bl, 0, none⟩) 2 2⟩ := by
            rw [htk, apps_snoc]
            have hll := ml.lt
            refine RE_two (by decide) ⟨[y, z], ⟨by simpa using Rd.blk ml (n := 2) rfl, fun _ b hb => by simp [Value.ownBlock] at hb; subst hb; exact ⟨⟨by omega, by omega, by omega, by omega⟩, .inr (by omega)⟩⟩, rfl, fun j x3 q e1 e2 => ?_⟩
            rcases j with _ | _ | j
            · simp at e1 e2; subst e1 e2; exact RE.mono (fun k hk => ⟨⟨hk.1.1, hk.1.2.1, hk.1.2.2.1, by have := hk.1.2.2.2; omega⟩, hk.2⟩) hy
            · simp at e1 e2; subst e1 e2; exact RE.mono (fun k hk => by rcases hk with ⟨hk1, hk2⟩; rcases hk1 with hk1 | hk1; (exact ⟨⟨by omega, by omega, by omega, by omega⟩, .inl hk1.2⟩); exact ⟨⟨by omega, by omega, by omega, by omega⟩, .inr (by omega)⟩) hz
            · simp at e1
          refine s_putW hF rfl rfl (size_wide wide27) m10 rfl (RE.one hy9) fun w56 m10 o57 => ?_
          have so57 := o57.size
          have hB := hB.trans (o57.below (by omega))
          have m4 := m4.only o57 (by omega)
          have m12 := m12.only o57 (by omega)
          have hy9 := hy9.only o57 (fun k (hk : (k ≠ br ∧ k ≠ b10 ∧ k ≠ b4 ∧ k < w54.heap.size) ∧ (A k ∨ w0.heap.size ≤ k)) => by omega)
          have hS := hS.only o57 (by omega)
          have hR := hR.only o57 (by omega)
          refine s_end ⟨hS, ?_⟩
          refine d_end (by kernel_rfl) (hK25 _ _ ?_)
          refine hK23 _ _ ?_
          refine wp_region_lit ?_
          refine s_val hF (x_addn (i + 1) (by omega) (by omega) rfl rfl) (by decide) fun a hF => ?_
          refine s_val hF (x_move rfl) (by decide) fun a hF => ?_
          refine s_end (hK' _ _ (by omega) ⟨_, hy9.mono (fun k hk => ⟨⟨hk.1.1, hk.1.2.1, hk.1.2.2.1, by have := hk.1.2.2.2; omega⟩, hk.2⟩), m10, m4, hR, hB, hF.sub _ rfl⟩)
        · refine d_op 3 (some 49) (Go.Op.call (Go.Call.mk (Go.Callee.value (Go.Operand.func 46)) #[(Go.Operand.tmp 47), (Go.Operand.tmp 48)] #[61, 27])) (by kernel_rfl) fun ty pos af => ?_
          refine s_call (R := fun u w' => ((∃ z, u = tv z ∧ REx w' (AS A w50.heap.size) p.ess z) ∧ Room w' br) ∧ Ktw br br w50 w') hF [_, _] (enters_of Try.func46 (by kernel_rfl) rfl) rfl (by decide) (owned57 w50 br (by omega) A (fun k hk => by have := hA k hk; exact ⟨by omega, by omega⟩) p y2 (hry.keep hB.size (fun k hk _ => hB.block k (hA k hk))) hR) ?_
          rintro _ w58 a ⟨⟨⟨z, rfl, hz0⟩, hR⟩, k59⟩ hF
          have sk59 := k59.size
          have hB := k59.under hB (by omega)
          have m4 := m4.k2 k59 (by omega)
          have m10 := m10.k2 k59 (by omega)
          have hy := hy.k2 k59 (fun k (hk : (k ≠ br ∧ k ≠ b10 ∧ k ≠ b4 ∧ k < top) ∧ (A k ∨ w0.heap.size ≤ k)) => by omega)
          have m12 := m12.k2 k59 (by omega)
          have hS := hS.trans k59 (by omega)
          have hz : REx w58 (fun k => ((k < w0.heap.size ∧ A k) ∨ w50.heap.size ≤ k) ∧ k < w58.heap.size) p.ess z := (RE.valid hz0).mono (fun k hk => ⟨hk.1.elim (fun h => .inl ⟨hA k h, h⟩) .inr, hk.2⟩)
          clear hz0
          have h1z := RE.one hz
          refine s_end ⟨hS, ?_⟩
          refine d_one 0 (some 46) (Go.Op.load 27 (Go.Operand.tmp 10)) (by kernel_rfl) (by kernel_rfl) fun ty pos af => ?_
          refine s_val hF (x_ldW wide27 m10 rfl rfl) (by decide) fun a hF => ?_
          refine s_end ⟨hS, ?_⟩
          refine d_one 4 (some 50) (Go.Op.buildSlice 25 2 #[(0, (Go.Operand.tmp 46)), (1, (Go.Operand.tmp 49))]) (by kernel_rfl) (by kernel_rfl) fun ty pos af => ?_
          refine s_litG [tv y, tv z] el25 hF (by decide) rfl (by simp [Value.cells, tc]) rfl (by decide) (by decide) fun w60 bl a ebl ml B61 zbl hF => ?_
          have sB61 := B61.size
          have hB := hB.trans (B61.mono hB.size)
          have m4 := m4.old B61
          have m10 := m10.old B61
          have hy := hy.below B61
          have m12 := m12.old B61
          have hz := hz.below B61
          have hS := hS.below B61
          have hR := hR.below B61
          have ml : Blk w60 bl 27 (tc y ++ tc z) := by simpa [Value.cells] using ml
          refine s_end ⟨hS, ?_⟩
          refine d_val 5 51 (op := (Go.Op.build 27 #[(0, (Go.Operand.const (Go.Value.int Go.IntKind.i64 6))), (5, (Go.Operand.tmp 50))])) hF hS (by kernel_rfl) (fun W hW => x_build (vs := [(0, _), (5, _)]) rfl (b27_05 _ _ _ _ _)) (by kernel_rfl) (by decide) fun a hF => ?_
          refine d_one 6 none (Go.Op.store 27 (Go.Operand.tmp 10) (Go.Operand.tmp 51)) (by kernel_rfl) (by kernel_rfl) fun ty pos af => ?_
          have hy9 : REx w60 (fun k => (k ≠ br ∧ k ≠ b10 ∧ k ≠ b4 ∧ k < w60.heap.size) ∧ (A k ∨ w0.heap.size ≤ k)) (PT.apps c.ess (ps.take (i + 1))) ⟨6, 0, emptyB, (0, 0, nilS), nilS, .slice (some ⟨bl, 0, none⟩) 2 2⟩ := by
            rw [htk, apps_snoc]
            have hll := ml.lt
            refine RE_two (by decide) ⟨[y, z], ⟨by simpa using Rd.blk ml (n := 2) rfl, fun _ b hb => by simp [Value.ownBlock] at hb; subst hb; exact ⟨⟨by omega, by omega, by omega, by omega⟩, .inr (by omega)⟩⟩, rfl, fun j x3 q e1 e2 => ?_⟩
            rcases j with _ | _ | j
            · simp at e1 e2; subst e1 e2; exact RE.mono (fun k hk => ⟨⟨hk.1.1, hk.1.2.1, hk.1.2.2.1, by have := hk.1.2.2.2; omega⟩, hk.2⟩) hy
            · simp at e1 e2; subst e1 e2; exact RE.mono (fun k hk => by rcases hk with ⟨hk1, hk2⟩; rcases hk1 with hk1 | hk1; (exact ⟨⟨by omega, by omega, by omega, by omega⟩, .inl hk1.2⟩); exact ⟨⟨by omega, by omega, by omega, by omega⟩, .inr (by omega)⟩) hz
            · simp at e1
          refine s_putW hF rfl rfl (size_wide wide27) m10 rfl (RE.one hy9) fun w62 m10 o63 => ?_
          have so63 := o63.size
          have hB := hB.trans (o63.below (by omega))
          have m4 := m4.only o63 (by omega)
          have m12 := m12.only o63 (by omega)
          have hy9 := hy9.only o63 (fun k (hk : (k ≠ br ∧ k ≠ b10 ∧ k ≠ b4 ∧ k < w60.heap.size) ∧ (A k ∨ w0.heap.size ≤ k)) => by omega)
          have hS := hS.only o63 (by omega)
          have hR := hR.only o63 (by omega)
          refine s_end ⟨hS, ?_⟩
          refine d_end (by kernel_rfl) (hK25 _ _ ?_)
          refine hK23 _ _ ?_
          refine wp_region_lit ?_
          refine s_val hF (x_addn (i + 1) (by omega) (by omega) rfl rfl) (by decide) fun a hF => ?_
          refine s_val hF (x_move rfl) (by decide) fun a hF => ?_
          refine s_end (hK' _ _ (by omega) ⟨_, hy9.mono (fun k hk => ⟨⟨hk.1.1, hk.1.2.1, hk.1.2.2.1, by have := hk.1.2.2.2; omega⟩, hk.2⟩), m10, m4, hR, hB, hF.sub _ rfl⟩)
      · obtain rfl : i = cs.length := by omega
        rw [← hpl, List.take_length] at hy
        refine wp_exit (hK19 _ _ ?_)
        refine wp_rs fun K26 hK26 => ?_
        refine s_val hF (x_ldW wide27 m10 rfl rfl) (by decide) fun a hF => ?_
        refine s_putW hF rfl rfl (size_wide wide27) m4 rfl h1y fun w66 m4 o67 => ?_
        have so67 := o67.size
        have hB := hB.trans (o67.below (by omega))
        have m10 := m10.only o67 (by omega)
        have hy := hy.only o67 (fun k (hk : (k ≠ br ∧ k ≠ b10 ∧ k ≠ b4 ∧ k < top) ∧ (A k ∨ w0.heap.size ≤ k)) => by omega)
        have hR := hR.only o67 (by omega)
        refine s_end (hK26 _ _ ?_)
        refine wp_ret (res_cell hF rfl rfl m4 wide27 ⟨_, rfl, ⟨y, rfl, by rw [show PT.appsR c.ess (cs.map CT.ess) = PT.apps c.ess ps from by rw [← hps]; exact if_pos hokA]; exact RE.mono (fun k hk => hk.2) hy⟩, hB⟩)

theorem Apps24 (c : CT) (x : C8) (cs : List CT) (v : Value) (w0 : World) (hx : RC w0 (fun k => k < w0.heap.size) c x) (hV : RK w0 (fun k => k < w0.heap.size) v cs) (hlen : cs.length ≤ 1000000) : Calls Try.prog 20 #[tv x, v] w0 fun e w' => ∃ u, e = .returned u ∧ (∃ y, u = tv y ∧ RT w' (PT.appsR c.ess (cs.map CT.ess)) y) ∧ Below w0.heap.size w0 w' :=
  (Apps24t _ c x cs v w0 (fun _ h => h) hx hV hlen).mono fun e w' ⟨u, h1, ⟨y, h2, h3⟩, h4⟩ => ⟨u, h1, ⟨y, h2, RE.rt h3⟩, h4⟩
end Go.Proofs.Ytaclncmkdpjnlaa

namespace Go.Proofs.Ytaclncmkdpjnlaa
open Go.RowKit Go.Shelf
set_option linter.unusedVariables false
set_option linter.unusedSimpArgs false

theorem RE_two_inv {W : World} {A : Nat → Prop} {k : Int} {p q : PT} {x : C8} (h : RE W A (.two k p q) x) : ∃ b off n cap y z, x.ts = .slice (some ⟨b, off, none⟩) n cap ∧ 2 ≤ n ∧ x.k = k ∧ RE W A p y ∧ RE W A q z ∧ A b ∧ b < W.heap.size ∧ (∀ j u, (tc y)[j]? = some u → W.cell? ⟨b, off + j, none⟩ = some u) ∧ (∀ j u, (tc z)[j]? = some u → W.cell? ⟨b, off + 8 + j, none⟩ = some u) := by
  obtain ⟨c, hc, he⟩ := h
  cases c with
  | two k' a b' m =>
    simp only [CT.ess] at he
    cases he
    obtain ⟨h1, h2, ⟨y, z, cs, hR, ha, hb⟩, _⟩ := hc
    obtain ⟨b, off, cap, hv, hbl⟩ := hR.1.some (by omega)
    refine ⟨b, off, _, cap, y, z, hv, by omega, h1, ⟨_, ha, rfl⟩, ⟨_, hb, rfl⟩, hR.2 (by omega) b (by rw [hv]; rfl), hbl, fun j u hj => ?_, fun j u hj => ?_⟩
    · have hj8 := (List.getElem?_eq_some_iff.1 hj).1
      have := (hv ▸ hR.1).cell (j := j) (u := u) (by rw [List.getElem?_append_left (by simpa [tc] using hj8)]; exact hj)
      exact this
    · have hj8 := (List.getElem?_eq_some_iff.1 hj).1
      have := (hv ▸ hR.1).cell (j := 8 + j) (u := u) (by rw [List.getElem?_append_right (by simp [tc]), show 8 + j - (tc y).length = j by simp [tc], List.getElem?_append_left (by simpa [tc] using hj8)]; exact hj)
      rwa [Nat.add_assoc]
  | _ => simp [CT.ess] at he
theorem RE_cst_s {W : World} {A : Nat → Prop} {s : ByteArray} {os : List (Option SL)} {x : C8} (h : RE W A (.cst s os) x) : x.k = 7 ∧ x.s = s := by
  obtain ⟨c, hc, he⟩ := h
  cases c with
  | cst s' ls m => simp only [CT.ess] at he; cases he; exact ⟨hc.1, hc.2.1⟩
  | _ => simp [CT.ess] at he
theorem RE_var_n {W : World} {A : Nat → Prop} {n : Int} {x : C8} (h : RE W A (.var n) x) : x.k = 1 ∧ x.n = n := by
  obtain ⟨c, hc, he⟩ := h
  cases c with
  | var n' m => simp only [CT.ess] at he; cases he; exact ⟨hc.1, hc.2.1⟩
  | _ => simp [CT.ess] at he
abbrev sA : ByteArray := ByteArray.mk #[97]
abbrev sC : ByteArray := ByteArray.mk #[99]
theorem aw_apps : PT.appsR (.var 1) [.var 0] = .two 6 (.var 1) (.var 0) := by
  unfold PT.appsR
  rw [if_pos (by unfold PT.ok; simp [PT.apps, PT.size, PT.dep])]
  rfl
theorem aw_inst : PT.inst (.two 4 (.cst sA []) (.two 6 (.var 1) (.var 0))) (.cst sC []) = .two 4 (.cst sA []) (.two 6 (.cst sC []) (.var 0)) := by
  have e : PT.put (.cst sC []) (.two 4 (.cst sA []) (.two 6 (.var 1) (.var 0))) 0 = .two 4 (.cst sA []) (.two 6 (.cst sC []) (.var 0)) := by simp [PT.put, PT.lift]
  unfold PT.inst
  rw [e, if_pos]
  unfold PT.ok
  simp [PT.size, PT.dep]
theorem x_eqSt {P : Program} {n : Nat} {l : List (Nat × Value)} {w : World} {t t' : TypeId} {x y : Operand} {s : ByteArray} (hx : ov l x = some (.string s)) (hy : ov l y = some (.string s)) : Runs P n l w (.binOp .eql t x y t') (.bool true) := by
  have := x_eqS (P := P) (n := n) (w := w) (t := t) (t' := t') rfl hx hy
  simpa using this

set_option maxRecDepth 100000 in
set_option maxHeartbeats 400000 in
theorem awake15 (w0 : World) : Calls Try.prog 11 #[] w0 fun e w' => e = .returned (.bool true) ∧ Below w0.heap.size w0 w' := by
  have hB := Below.refl w0.heap.size w0
  have sB := hB.size
  refine calls_fs (vs := []) 35 [] Try.func11 rfl rfl rfl rfl rfl fun a hF => ?_
  refine wp_rs fun K1 hK1 => ?_
  refine s_val hF (x_assign rfl) (by decide) fun a hF => ?_
  refine s_end (hK1 _ _ ?_)
  refine wp_rs fun K2 hK2 => ?_
  refine s_callR (R := fun u w' => ∃ y, u = tv y ∧ RT w' (.cst sA []) y) [_, _] hF (enters_of Try.func14 (by kernel_rfl) rfl) rfl (by decide) (Const18 sA [] nilS w0 (RVn.nil _ _)) ?_
  rintro _ w2 a ⟨y2, rfl, h2⟩ B3 hF
  have sB3 := B3.size
  have hB := hB.trans (B3.mono hB.size)
  refine s_callR (R := fun u w' => ∃ y, u = tv y ∧ RC w' (fun _ => False) (.var 1 0) y) [_] hF (enters_of Try.func12 (by kernel_rfl) rfl) rfl (by decide) (var16 1 w2 (by unfold in64; omega)) ?_
  rintro _ w4 a ⟨y3, rfl, h30⟩ B5 hF
  have sB5 := B5.size
  have hB := hB.trans (B5.mono hB.size)
  have h2 := h2.below B5
  have h3 : RT w4 (.var 1) y3 := (RC.re h30).rt
  refine s_callR (R := fun u w' => ∃ y, u = tv y ∧ RC w' (fun _ => False) (.var 0 0) y) [_] hF (enters_of Try.func12 (by kernel_rfl) rfl) rfl (by decide) (var16 0 w4 (by unfold in64; omega)) ?_
  rintro _ w6 a ⟨y4, rfl, h40⟩ B7 hF
  have sB7 := B7.size
  have hB := hB.trans (B7.mono hB.size)
  have h2 := h2.below B7
  have h3 := h3.below B7
  have h4 : RT w6 (.var 0) y4 := (RC.re h40).rt
  refine s_litG [tv y4] el25 hF (by decide) rfl (by simp [Value.cells, tc]) rfl (by decide) (by decide) fun w8 bl a ebl ml B9 zbl hF => ?_
  have sB9 := B9.size
  have hB := hB.trans (B9.mono hB.size)
  have h2 := h2.below B9
  have h3 := h3.below B9
  have h4 := h4.below B9
  have ml : Blk w8 bl 27 (tc y4) := by simpa [Value.cells] using ml
  obtain ⟨c3, hc3, he3⟩ := h3
  obtain ⟨c4, hc4, he4⟩ := h4
  have hrk : RK w8 (fun k => k < w8.heap.size) (.slice (some ⟨bl, 0, none⟩) 1 1) [c4] := ⟨[y4], ⟨by simpa using Rd.blk ml (n := 1) rfl, fun _ b hb => by simp [Value.ownBlock] at hb; subst hb; exact ml.lt⟩, rfl, fun i x2 c2 e1 e2 => by rcases i with _ | i; (· simp at e1 e2; subst e1 e2; exact hc4); simp at e1⟩
  refine s_callR (R := fun u w' => ∃ y, u = tv y ∧ RT w' (PT.appsR c3.ess ([c4].map CT.ess)) y) [_, _] hF (enters_of Try.func20 (by kernel_rfl) rfl) rfl (by decide) (Apps24 c3 y3 [c4] _ w8 hc3 hrk (by simp)) ?_
  rintro _ w10 a ⟨y6, rfl, h6⟩ B11 hF
  have sB11 := B11.size
  have hB := hB.trans (B11.mono hB.size)
  have h2 := h2.below B11
  simp only [List.map_cons, List.map_nil] at h6
  rw [he3, he4, aw_apps] at h6
  obtain ⟨c2, hc2, he2⟩ := h2
  obtain ⟨c6, hc6, he6⟩ := h6
  refine s_callR (R := fun u w' => ∃ y, u = tv y ∧ RT w' (.two 4 c2.ess c6.ess) y) [_, _] hF (enters_of Try.func17 (by kernel_rfl) rfl) rfl (by decide) (Lam21 c2 c6 y2 y6 w10 hc2 hc6) ?_
  rintro _ w12 a ⟨y7, rfl, h7⟩ B13 hF
  have sB13 := B13.size
  have hB := hB.trans (B13.mono hB.size)
  rw [he2, he6] at h7
  refine s_callR (R := fun u w' => ∃ y, u = tv y ∧ RT w' (.cst sC []) y) [_, _] hF (enters_of Try.func14 (by kernel_rfl) rfl) rfl (by decide) (Const18 sC [] nilS w12 (RVn.nil _ _)) ?_
  rintro _ w14 a ⟨y8, rfl, h8⟩ B15 hF
  have sB15 := B15.size
  have hB := hB.trans (B15.mono hB.size)
  have h7 := h7.below B15
  obtain ⟨c7, hc7, he7⟩ := h7
  obtain ⟨c8, hc8, he8⟩ := h8
  refine s_callR (R := fun u w' => ∃ y, u = tv y ∧ RT w' (PT.inst c7.ess c8.ess) y) [_, _] hF (enters_of Try.func29 (by kernel_rfl) rfl) rfl (by decide) (Inst42 c7 c8 y7 y8 w14 hc7 hc8) ?_
  rintro _ w16 a ⟨y9, rfl, h9⟩ B17 hF
  have sB17 := B17.size
  have hB := hB.trans (B17.mono hB.size)
  rw [he7, he8, aw_inst] at h9
  have h9 : REx w16 (fun k => k < w16.heap.size) _ y9 := h9
  refine s_alloc hF (by decide) zero27 fun w18 b1 a eb1 m1 B19 zb1 hF => ?_
  have sB19 := B19.size
  have hB := hB.trans (B19.mono hB.size)
  have h9 := h9.below B19
  refine s_putW hF rfl rfl (size_wide wide27) m1 rfl (RE.one h9) fun w22 m1 o23 => ?_
  have so23 := o23.size
  have hB := hB.trans (o23.below (by omega))
  have h9 := h9.only o23 (fun k (hk : k < w16.heap.size) => by omega)
  refine s_end (hK2 _ _ ?_)
  obtain ⟨b9, off9, n9, cap9, ya, yb, hts, hn9, hk9, ha, hb9, _, _, _, hcb⟩ := RE_two_inv h9
  obtain ⟨b8, off8, n8, cap8, yc, yd, hts8, hn8, _, hc, hd, _, _, hcc, hcd⟩ := RE_two_inv hb9
  have hsc := (RE_cst_s hc).2
  have hnd := (RE_var_n hd).2
  have e5 := hcb 7 _ rfl
  rw [hts8] at e5
  have e2 := hcc 2 _ rfl
  rw [hsc] at e2
  have e1 := hcd 1 _ rfl
  rw [hnd] at e1
  have hm0 := m1.cell (j := 0) rfl
  have hm5 := m1.cell (j := 7) rfl
  rw [hts] at hm5
  rw [hk9] at hm0
  refine wp_rs fun K3 hK3 => ?_
  refine s_val hF (x_fa0 fa27_0 rfl) (by decide) fun a hF => ?_
  refine s_val hF (x_load rfl (m_load flat3 (hm0))) (by decide) fun a hF => ?_
  refine s_val hF (x_eql (b := true) rfl rfl rfl) (by decide) fun a hF => ?_
  refine s_val hF (x_move rfl) (by decide) fun a hF => ?_
  refine s_grd 13 hF rfl rfl rfl ?_
  refine s_val hF (x_fa0 fa27_5 rfl) (by decide) fun a hF => ?_
  refine s_grd 13 hF rfl rfl rfl ?_
  refine s_val hF (x_load rfl (m_load flat25 (hm5))) (by decide) fun a hF => ?_
  refine s_grd 13 hF rfl rfl rfl ?_
  refine s_val hF (x_ixa rfl rfl (m_ixsK 1 Try.underlying25 el25.size rfl (by omega))) (by decide) fun a hF => ?_
  refine s_grd 13 hF rfl rfl rfl ?_
  refine s_val hF (x_fa fa27_5 rfl) (by decide) fun a hF => ?_
  refine s_grd 13 hF rfl rfl rfl ?_
  refine s_val hF (x_load rfl (m_load flat25 (by rw [Nat.one_mul]; exact e5))) (by decide) fun a hF => ?_
  refine s_grd 13 hF rfl rfl rfl ?_
  refine s_val hF (x_ixa rfl rfl (m_ixsK 0 Try.underlying25 el25.size rfl (by omega))) (by decide) fun a hF => ?_
  refine s_grd 13 hF rfl rfl rfl ?_
  refine s_val hF (x_fa fa27_2 rfl) (by decide) fun a hF => ?_
  refine s_grd 13 hF rfl rfl rfl ?_
  refine s_val hF (x_load rfl (m_load flat9 (by rw [Nat.zero_mul]; exact e2))) (by decide) fun a hF => ?_
  refine s_grd 13 hF rfl rfl rfl ?_
  refine s_val hF (x_eqSt rfl rfl) (by decide) fun a hF => ?_
  refine s_val hF (x_pick (b := true) rfl rfl) (by decide) fun a hF => ?_
  refine s_val hF (x_move rfl) (by decide) fun a hF => ?_
  refine s_grd 24 hF rfl rfl rfl ?_
  refine s_val hF (x_fa0 fa27_5 rfl) (by decide) fun a hF => ?_
  refine s_grd 24 hF rfl rfl rfl ?_
  refine s_val hF (x_load rfl (m_load flat25 (hm5))) (by decide) fun a hF => ?_
  refine s_grd 24 hF rfl rfl rfl ?_
  refine s_val hF (x_ixa rfl rfl (m_ixsK 1 Try.underlying25 el25.size rfl (by omega))) (by decide) fun a hF => ?_
  refine s_grd 24 hF rfl rfl rfl ?_
  refine s_val hF (x_fa fa27_5 rfl) (by decide) fun a hF => ?_
  refine s_grd 24 hF rfl rfl rfl ?_
  refine s_val hF (x_load rfl (m_load flat25 (by rw [Nat.one_mul]; exact e5))) (by decide) fun a hF => ?_
  refine s_grd 24 hF rfl rfl rfl ?_
  refine s_val hF (x_ixa rfl rfl (m_ixsK 1 Try.underlying25 el25.size rfl (by omega))) (by decide) fun a hF => ?_
  refine s_grd 24 hF rfl rfl rfl ?_
  refine s_val hF (x_fa fa27_1 rfl) (by decide) fun a hF => ?_
  refine s_grd 24 hF rfl rfl rfl ?_
  refine s_val hF (x_load rfl (m_load flat3 (by rw [Nat.one_mul]; exact e1))) (by decide) fun a hF => ?_
  refine s_grd 24 hF rfl rfl rfl ?_
  refine s_val hF (x_eql (b := true) rfl rfl rfl) (by decide) fun a hF => ?_
  refine s_val hF (x_pick (b := true) rfl rfl) (by decide) fun a hF => ?_
  refine s_val hF (x_assign rfl) (by decide) fun a hF => ?_
  refine s_end (hK3 _ _ ?_)
  refine wp_ret (res_slot hF rfl rfl ⟨rfl, hB⟩)
end Go.Proofs.Ytaclncmkdpjnlaa

namespace Go.Proofs.Ytaclncmkdpjnlaa
open Go.RowKit Go.Shelf
set_option linter.unusedVariables false
set_option linter.unusedSimpArgs false

def letC (c : UInt8) : Prop := 97 ≤ c.toNat ∧ c.toNat ≤ 122
def othC (c : UInt8) : Prop := (48 ≤ c.toNat ∧ c.toNat ≤ 57) ∨ c.toNat = 95 ∨ c.toNat = 46
def okAt (l : List UInt8) (i : Nat) : Prop := ∀ c, l[i]? = some c → letC c ∨ (i ≠ 0 ∧ othC c)
def nameP (l : List UInt8) : Prop := (∀ i, okAt l i) ∧ 1 ≤ l.length ∧ l.length ≤ 32
noncomputable def nameB (s : ByteArray) : Bool := @decide (nameP s.data.toList) (Classical.propDecidable _)
/-- No name and no list of levels is longer than may be. -/
def CT.fit : CT → Prop
  | .cst s ls _ => s.size ≤ 9223372036854775807 ∧ ls.length ≤ 9223372036854775807
  | .two _ a b _ => a.fit ∧ b.fit
  | .lt a b c _ => a.fit ∧ b.fit ∧ c.fit
  | _ => True
def fstErr (vars : Int) : List Lv → Int
  | [] => 0
  | l :: ls => if (chk 32 1048576 vars 1 100 l).1 ≠ 0 then (chk 32 1048576 vars 1 100 l).1 else fstErr vars ls
noncomputable def leafErr (vars : Int) : CT → Int
  | .var n _ => if n < 0 ∨ 1048576 < n then 1 else 0
  | .sort l _ => (chk 32 1048576 vars 1 100 l).1
  | .cst s ls _ => if nameB s = false then 8 else if 6 < ls.length then 2 else fstErr vars ls
  | _ => 0
noncomputable def nodeErr (vars d : Int) (n : Nat) (c : CT) : Int := if 64 < d ∨ 400 < n then 2 else if arT c.kd < 0 ∨ (c.len : Int) ≠ arT c.kd then 1 else leafErr vars c
noncomputable def CT.mayT (vars : Int) : CT → Int → Nat → Int × Nat
  | .two k a b m, d, n => if nodeErr vars d (n + 1) (.two k a b m) ≠ 0 then (nodeErr vars d (n + 1) (.two k a b m), n + 1) else
    if (a.mayT vars (d + 1) (n + 1)).1 ≠ 0 then a.mayT vars (d + 1) (n + 1) else b.mayT vars (d + 1) (a.mayT vars (d + 1) (n + 1)).2
  | .lt a b c m, d, n => if nodeErr vars d (n + 1) (.lt a b c m) ≠ 0 then (nodeErr vars d (n + 1) (.lt a b c m), n + 1) else
    if (a.mayT vars (d + 1) (n + 1)).1 ≠ 0 then a.mayT vars (d + 1) (n + 1) else
    if (b.mayT vars (d + 1) (a.mayT vars (d + 1) (n + 1)).2).1 ≠ 0 then b.mayT vars (d + 1) (a.mayT vars (d + 1) (n + 1)).2 else c.mayT vars (d + 1) (b.mayT vars (d + 1) (a.mayT vars (d + 1) (n + 1)).2).2
  | .var z m, d, n => (nodeErr vars d (n + 1) (.var z m), n + 1)
  | .sort l m, d, n => (nodeErr vars d (n + 1) (.sort l m), n + 1)
  | .cst s ls m, d, n => (nodeErr vars d (n + 1) (.cst s ls m), n + 1)
  | .odd k m, d, n => (nodeErr vars d (n + 1) (.odd k m), n + 1)
noncomputable def mayK (vars : Int) : List CT → Int → Nat → Int × Nat
  | [], _, n => (0, n)
  | k :: ks, d, n => if (k.mayT vars d n).1 ≠ 0 then k.mayT vars d n else mayK vars ks d (k.mayT vars d n).2
/-- What passes. -/
def CT.okV (vars : Int) : CT → Prop
  | .var n _ => 0 ≤ n ∧ n ≤ 1048576
  | .sort l _ => (chk 32 1048576 vars 1 100 l).1 = 0
  | .cst _ ls _ => ls.length ≤ 6 ∧ ∀ l ∈ ls, (chk 32 1048576 vars 1 100 l).1 = 0
  | .odd .. => False
  | .two _ a b _ => a.okV vars ∧ b.okV vars
  | .lt a b c _ => a.okV vars ∧ b.okV vars ∧ c.okV vars
end Go.Proofs.Ytaclncmkdpjnlaa

namespace Go.Proofs.Ytaclncmkdpjnlaa
open Go.RowKit Go.Shelf
set_option linter.unusedVariables false
set_option linter.unusedSimpArgs false

end Go.Proofs.Ytaclncmkdpjnlaa

namespace Go.Proofs.Ytaclncmkdpjnlaa
open Go.RowKit Go.Shelf
set_option linter.unusedVariables false
set_option linter.unusedSimpArgs false

/-- What whole lets pass. -/
def CT.wf (c : CT) : Prop := c.okV 6 ∧ c.size ≤ 400 ∧ c.dep ≤ 64
theorem CT.wf.ok {c : CT} (h : c.wf) : c.ok := ⟨by have := h.2.1; omega, by have := h.2.2; omega⟩
def PT.loose : PT → Int → Int
  | .var n, d => if d ≤ n then min (n - d + 1) 9223372036854775807 else 0
  | .two k p q, d => max (p.loose d) (q.loose (d + if k = 3 ∨ k = 4 then 1 else 0))
  | .lt p q r, d => max (p.loose d) (max (q.loose d) (r.loose (d + 1)))
  | .sort _, _ => 0
  | .cst _ _, _ => 0
  | .odd _, _ => 0
def mostL (ps : List Int) : Int := if ps.length = 0 then 0 else mxl ps
def Glo (c : CT) (d : Int) (ps : List Int) : Int := match c with
  | .var n _ => if d ≤ n then min (n - d + 1) 9223372036854775807 else 0
  | _ => mostL ps
def CT.looseR (c : CT) : Int := if c.ok then c.ess.loose 0 else 0

end Go.Proofs.Ytaclncmkdpjnlaa

namespace Go.Proofs.Ytaclncmkdpjnlaa
open Go.RowKit Go.Shelf
set_option linter.unusedVariables false
set_option linter.unusedSimpArgs false

def szs (ks : List CT) : Nat := (ks.map CT.size).sum
theorem szs_at {ks : List CT} {k : CT} {i : Nat} (h : ks[i]? = some k) : szs (ks.take (i + 1)) = szs (ks.take i) + k.size ∧ szs (ks.take (i + 1)) ≤ szs ks := by
  have e := split_at h
  have e2 : ks.take (i + 1) = ks.take i ++ [k] := by rw [List.take_add_one, h]; rfl
  refine ⟨by rw [e2]; simp [szs], ?_⟩
  rw [e2]
  conv => rhs; rw [e]
  simp [szs]
theorem CT.size_szs (c : CT) : c.size = szs c.kids + 1 := by cases c <;> simp [CT.size, CT.kids, szs] <;> omega
theorem CT.dep_top (c : CT) (M : Int) (hM : 0 ≤ M) (h : ∀ k ∈ c.kids, (k.dep : Int) ≤ M) : (c.dep : Int) ≤ M + 1 := by
  cases c with
  | two k a b m =>
    have h1 := h a (by simp [CT.kids])
    have h2 := h b (by simp [CT.kids])
    simp only [CT.dep]
    omega
  | lt a b c m =>
    have h1 := h a (by simp [CT.kids])
    have h2 := h b (by simp [CT.kids])
    have h3 := h c (by simp [CT.kids])
    simp only [CT.dep]
    omega
  | _ => simp only [CT.dep]; omega
/-- What count tells: that it goes, and how many there are then; that it doesn't. -/
def cntR (c : CT) (d : Int) (n : Nat) (b : Bool) (m : Nat) : Prop := m ≤ 20001 ∧ (b = true → m = n + c.size ∧ d + c.dep ≤ 2001 ∧ (m ≤ 20000 ∨ c.size = 1)) ∧ (b = false → ¬ (n + c.size ≤ 20000 ∧ d + c.dep ≤ 2001))

set_option maxRecDepth 100000 in
set_option maxHeartbeats 400000 in
theorem count55 (w0 : World) (g : Nat) (hg : w0.heap.size ≤ g) : ∀ (N : Nat) (c : CT) (x : C8), c.size < N → RC w0 (fun k => k < w0.heap.size) c x → ∀ (d : Int) (n : Nat) (w1 : World), 0 ≤ d → d ≤ 2001 → n ≤ 20000 → Below w0.heap.size w0 w1 → Blk w1 g 3 [.int .i64 (n : Int)] →
    Calls Try.prog 44 #[tv x, .int .i64 d, .pointer (some ⟨g, 0, none⟩)] w1 fun e w' => ∃ u, e = .returned u ∧ (∃ b m, u = .bool b ∧ Blk w' g 3 [.int .i64 ((m : Nat) : Int)] ∧ cntR c d n b m) ∧ Ktw g g w1 w' := by
  intro N
  induction N with
  | zero => intro s x h; omega
  | succ N ih =>
  intro c x hN hx d n w1 hd0 hd1 hn hB mg
  have hK := Ktw.refl g g w1
  have sB := hB.size
  have sK := hK.size
  have hgl := mg.lt
  have hrg := arT_rng c.kd
  have hss := c.size_szs
  have hdp := c.dep_pos
  have hk9 := CT.kids_arT hx
  have h3 := c.kids_le
  have hleaf := leaf70 c x _ w0 w1 hx
  obtain ⟨av, nv, cv, hts, hle9, hlen9, hcap, hkid⟩ := hx.kids
  obtain ⟨xk, xn, xs, xl, xls, xts⟩ := x
  simp only at hts
  subst hts
  have hkd : xk = c.kd := hx.kd
  have hone := hx.one
  refine calls_fs 46 [(0, tv ⟨xk, xn, xs, xl, xls, .slice av nv cv⟩), (1, .int .i64 d), (2, .pointer (some ⟨g, 0, none⟩))] Try.func44 rfl rfl rfl rfl rfl fun a hF => ?_
  refine wp_rs fun K1 hK1 => ?_
  refine s_box ([.int .i64 xk, .int .i64 xn, .string xs, .int .i64 xl.1, .int .i64 xl.2.1, xl.2.2, xls, .slice av nv cv]) hF (by decide) rfl rfl fun w2 b3 a eb3 m3 B3 zb3 hF => ?_
  have sB3 := B3.size
  have hB := hB.trans (B3.mono hB.size)
  have hK := hK.below B3
  have mg := mg.old B3
  refine s_val hF (x_assign rfl) (by decide) fun a hF => ?_
  refine s_end (hK1 _ _ ?_)
  refine wp_rs fun K2 hK2 => ?_
  refine s_val hF (x_move rfl) (by decide) fun a hF => ?_
  refine s_val hF (x_nil rfl) (by decide) fun a hF => ?_
  refine s_val hF (x_load rfl (m_load flat3 (mg.cell (j := 0) rfl))) (by decide) fun a hF => ?_
  refine s_val hF (x_addn (n + 1) (by omega) (by omega) rfl rfl) (by decide) fun a hF => ?_
  refine s_val hF (x_nil rfl) (by decide) fun a hF => ?_
  refine s_put hF rfl rfl flat3 mg (by first | (simp; done) | (simp [tc, lc]; done) | decide) rfl fun w4 mg o5 => ?_
  have so5 := o5.size
  have hB := hB.trans (o5.below (by omega))
  have hK := hK.only o5 (by omega)
  have m3 := m3.only o5 (by omega)
  refine s_end (hK2 _ _ ?_)
  refine wp_seq_k fun K3 hK3 => ?_
  rcases (show 2000 < d ∨ ¬ 2000 < d by omega) with hz | hz
  · skip
    refine wp_rs fun K5 hK5 => ?_
    refine s_val hF (x_move rfl) (by decide) fun a hF => ?_
    refine s_val hF (x_gtr (b := true) (decide_eq_true (by omega)) rfl rfl) (by decide) fun a hF => ?_
    refine s_end (hK5 _ _ ?_)
    refine wp_if hF rfl ?_
    refine wp_rs fun K6 hK6 => ?_
    refine s_val hF (x_assign rfl) (by decide) fun a hF => ?_
    refine s_end (hK6 _ _ ?_)
    refine wp_ret (then_ret (res_slot hF rfl rfl ⟨_, rfl, ⟨false, n + 1, rfl, mg, ⟨by omega, (fun h => absurd h (by decide)), fun _ h => by omega⟩⟩, hK⟩))
  · skip
    refine wp_rs fun K7 hK7 => ?_
    refine s_val hF (x_move rfl) (by decide) fun a hF => ?_
    refine s_val hF (x_gtr (b := false) (decide_eq_false (by omega)) rfl rfl) (by decide) fun a hF => ?_
    refine s_end (hK7 _ _ ?_)
    refine wp_if hF rfl ?_
    refine wp_skip (hK3 _ _ ?_)
    refine wp_seq_k fun K8 hK8 => ?_
    rcases (show ((arT c.kd < 0 ∨ (c.len : Int) < arT c.kd) ∧ c.kids.length = 0) ∨ (¬ (arT c.kd < 0 ∨ (c.len : Int) < arT c.kd) ∧ (c.kids.length : Int) = arT c.kd) by omega) with hy | hy
    · skip
      refine wp_rs fun K10 hK10 => ?_
      refine s_val hF (x_ldW wide27 m3 rfl rfl) (by decide) fun a hF => ?_
      refine s_callB [_] hF (enters_of Try.func59 (by kernel_rfl) rfl) rfl (by decide) ((leaf70 c ⟨xk, xn, xs, xl, xls, .slice av nv cv⟩ _ w0 w4 hx).mono fun e w' h => ⟨by rw [h.1, decide_eq_true hy.1], h.2⟩) fun w6 a B7 hF => ?_
      have sB7 := B7.size
      have hB := hB.trans (B7.mono hB.size)
      have hK := hK.below B7
      have mg := mg.old B7
      have m3 := m3.old B7
      refine s_end (hK10 _ _ ?_)
      refine wp_if hF rfl ?_
      refine wp_rs fun K11 hK11 => ?_
      refine s_val hF (x_assign rfl) (by decide) fun a hF => ?_
      refine s_end (hK11 _ _ ?_)
      have hk0 : c.kids = [] := List.eq_nil_of_length_eq_zero hy.2
      have hd9 := c.dep_top 0 (by omega) (by rw [hk0]; simp)
      rw [hk0] at hss
      have hs1 : c.size = 1 := by simpa [szs] using hss
      refine wp_ret (then_ret (res_slot hF rfl rfl ⟨_, rfl, ⟨true, n + 1, rfl, mg, ⟨by omega, fun _ => ⟨by omega, by omega, .inr hs1⟩, fun h => absurd h (by decide)⟩⟩, hK⟩))
    · skip
      refine wp_rs fun K12 hK12 => ?_
      refine s_val hF (x_ldW wide27 m3 rfl rfl) (by decide) fun a hF => ?_
      refine s_callB [_] hF (enters_of Try.func59 (by kernel_rfl) rfl) rfl (by decide) ((leaf70 c ⟨xk, xn, xs, xl, xls, .slice av nv cv⟩ _ w0 w4 hx).mono fun e w' h => ⟨by rw [h.1, decide_eq_false hy.1], h.2⟩) fun w8 a B9 hF => ?_
      have sB9 := B9.size
      have hB := hB.trans (B9.mono hB.size)
      have hK := hK.below B9
      have mg := mg.old B9
      have m3 := m3.old B9
      refine s_end (hK12 _ _ ?_)
      refine wp_if hF rfl ?_
      refine wp_skip (hK8 _ _ ?_)
      refine wp_seq_k fun K13 hK13 => ?_
      refine dk2_seq (w8.heap.size) (w8.heap.size) (ops := regOps Try.f44 6) (N := 8) (by kernel_rfl) wide_orders (by kernel_rfl) fun w10 hw10 B11 hS K14 hK14 => ?_
      have zw10 : w10.heap.size = w8.heap.size := by rw [hw10]
      have sB11 := B11.size
      have hB := hB.trans (B11.mono hB.size)
      have hK := hK.below B11
      have mg := mg.old B11
      have m3 := m3.old B11
      have mg_d := mg
      have m3_d := m3
      have hB_d := hB
      have hK_d := hK
      refine d_val 0 18 (op := (Go.Op.fieldAddr 27 (Go.Operand.tmp 3) 5)) hF hS (by kernel_rfl) (fun W hW => x_fa0 fa27_5 rfl) (by kernel_rfl) (by decide) fun a hF => ?_
      refine d_val 1 19 (op := (Go.Op.load 25 (Go.Operand.tmp 18))) hF hS (by kernel_rfl) (fun W hW => x_load rfl (m_load flat25 ((m3_d.k2 hW (by omega)).cell (j := 7) rfl))) (by kernel_rfl) (by decide) fun a hF => ?_
      refine d_val 2 20 (op := (Go.Op.fieldAddr 27 (Go.Operand.tmp 3) 0)) hF hS (by kernel_rfl) (fun W hW => x_fa0 fa27_0 rfl) (by kernel_rfl) (by decide) fun a hF => ?_
      refine d_val 3 21 (op := (Go.Op.load 3 (Go.Operand.tmp 20))) hF hS (by kernel_rfl) (fun W hW => x_load rfl (m_load flat3 ((m3_d.k2 hW (by omega)).cell (j := 0) rfl))) (by kernel_rfl) (by decide) fun a hF => ?_
      refine d_val 7 25 (op := (Go.Op.move (Go.Operand.const (Go.Value.int Go.IntKind.i64 0)))) hF hS (by kernel_rfl) (fun W hW => x_move rfl) (by kernel_rfl) (by decide) fun a hF => ?_
      refine d_one 4 (some 22) (Go.Op.call (Go.Call.mk (Go.Callee.value (Go.Operand.func 87)) #[(Go.Operand.tmp 21)] #[3])) (by kernel_rfl) (by kernel_rfl) fun ty pos af => ?_
      refine s_callS [_] hF (enters_of Try.func87 (by kernel_rfl) rfl) rfl (by decide) ((kids54 xk w10).mono fun e w' h => ⟨(by rw [h.1, hkd, ← hy.2] : e = .returned (.int .i64 (c.kids.length : Int))), h.2⟩) fun a hF => ?_
      refine s_end ⟨hS, ?_⟩
      refine d_val 5 23 (op := (Go.Op.slice 25 (Go.Operand.tmp 19) none (some (Go.Operand.tmp 22)) none)) hF hS (by kernel_rfl) (fun W hW => x_slice (vlo := none) (vhi := some _) (vmx := none) rfl rfl rfl rfl (m_sliceUK c.kids.length Try.underlying25 el25.size (by omega) (by omega))) (by kernel_rfl) (by decide) fun a hF => ?_
      refine d_val 6 24 (op := (Go.Op.call (Go.Call.mk (Go.Callee.builtin Go.Builtin.len) #[(Go.Operand.tmp 23)] #[25]))) hF hS (by kernel_rfl) (fun W hW => x_len Try.underlying25 rfl) (by kernel_rfl) (by decide) fun a hF => ?_
      refine d_end (by kernel_rfl) (hK14 _ _ ?_)
      refine wp_block ?_
      refine wp_up c.kids.length (fun i a w => ∃ n2 : Nat, n2 = n + 1 + szs (c.kids.take i) ∧ (∀ k ∈ c.kids.take i, d + 1 + (k.dep : Int) ≤ 2001) ∧ n2 ≤ 20001 ∧ Blk w g 3 [.int .i64 (n2 : Int)] ∧ Below w0.heap.size w0 w ∧ Ktw g g w1 w ∧ Fs 46 a [(1, .int .i64 d), (2, .pointer (some ⟨g, 0, none⟩)), (23, .slice av c.kids.length cv), (24, .int .i64 (c.kids.length : Int)), (25, .int .i64 (i : Int))]) ⟨n + 1, by simp [szs], (fun k h => by simp at h), by omega, mg, hB, hK, hF.sub _ rfl⟩ ?_
      repeat clear hF
      clear hB hK mg
      rintro i a w hi ⟨n2, hn2, hdk, hn3, mg, hB, hK, hF⟩ K' hK'
      have sB := hB.size
      have sK := hK.size
      have hgl := mg.lt
      refine wp_rs fun K15 hK15 => ?_
      refine s_val hF (x_lss (b := decide (i < c.kids.length)) (decide_eq_decide.2 (by omega)) rfl rfl) (by decide) fun a hF => ?_
      refine s_end (hK15 _ _ ?_)
      refine wp_seq_k fun K16 hK16 => ?_
      refine wp_iff hF rfl (fun hc26 => ?_) (fun hc26 => ?_)
      · obtain ⟨b9, off9, c9, y, kd, hve, hyk, hry, hAb, hbl, hrow⟩ := hkid.row (i := i) (by omega)
        cases hve
        have hks := CT.kid_size hyk
        have hsz := szs_at hyk
        have hdp2 := kd.dep_pos
        have hsp := kd.size_pos
        refine wp_skip (hK16 _ _ ?_)
        refine wp_seq_k fun K17 hK17 => ?_
        refine wp_block ?_
        refine wp_rs fun K18 hK18 => ?_
        refine s_val hF (x_ixa rfl rfl (m_ixsK i Try.underlying25 el25.size rfl (by omega))) (by decide) fun a hF => ?_
        refine s_val hF (x_ldA wide27 (hrow _ (hB.block _ hbl)) rfl rfl) (by decide) fun a hF => ?_
        refine s_alloc hF (by decide) zero27 fun w12 b8 a eb8 m8 B13 zb8 hF => ?_
        have sB13 := B13.size
        have hB := hB.trans (B13.mono hB.size)
        have hK := hK.below B13
        have mg := mg.old B13
        refine s_putW hF rfl rfl (size_wide wide27) m8 rfl hry.one fun w16 m8 o17 => ?_
        have so17 := o17.size
        have hB := hB.trans (o17.below (by omega))
        have hK := hK.only o17 (by omega)
        have mg := mg.only o17 (by omega)
        refine s_end (hK18 _ _ ?_)
        rcases (show 20000 < (n2 : Int) ∨ ¬ 20000 < (n2 : Int) by omega) with hw | hw
        · skip
          refine wp_rs fun K20 hK20 => ?_
          refine s_val hF (x_move rfl) (by decide) fun a hF => ?_
          refine s_val hF (x_nil rfl) (by decide) fun a hF => ?_
          refine s_val hF (x_load rfl (m_load flat3 (mg.cell (j := 0) rfl))) (by decide) fun a hF => ?_
          refine s_val hF (x_gtr (b := true) (decide_eq_true (by omega)) rfl rfl) (by decide) fun a hF => ?_
          refine s_val hF (x_move rfl) (by decide) fun a hF => ?_
          refine s_grdn 33 hF rfl rfl (by decide) fun a hF => ?_
          refine s_grdn 33 hF rfl rfl (by decide) fun a hF => ?_
          refine s_grdn 33 hF rfl rfl (by decide) fun a hF => ?_
          refine s_grdn 33 hF rfl rfl (by decide) fun a hF => ?_
          refine s_grdn 33 hF rfl rfl (by decide) fun a hF => ?_
          refine s_grdn 33 hF rfl rfl (by decide) fun a hF => ?_
          refine s_val hF (x_pick (b := true) rfl rfl) (by decide) fun a hF => ?_
          refine s_end (hK20 _ _ ?_)
          refine wp_if hF rfl ?_
          refine wp_rs fun K21 hK21 => ?_
          refine s_val hF (x_assign rfl) (by decide) fun a hF => ?_
          refine s_end (hK21 _ _ ?_)
          refine wp_ret (inb_ret (then_ret (then_ret (inb_ret (then_ret (res_slot hF rfl rfl ⟨_, rfl, ⟨false, n2, rfl, mg, ⟨hn3, (fun h => absurd h (by decide)), fun _ h => by omega⟩⟩, hK⟩))))))
        · skip
          refine wp_rs fun K22 hK22 => ?_
          refine s_val hF (x_move rfl) (by decide) fun a hF => ?_
          refine s_val hF (x_nil rfl) (by decide) fun a hF => ?_
          refine s_val hF (x_load rfl (m_load flat3 (mg.cell (j := 0) rfl))) (by decide) fun a hF => ?_
          refine s_val hF (x_gtr (b := false) (decide_eq_false (by omega)) rfl rfl) (by decide) fun a hF => ?_
          refine s_val hF (x_move rfl) (by decide) fun a hF => ?_
          refine s_grd 33 hF rfl rfl rfl ?_
          refine s_val hF (x_ldW wide27 m8 rfl rfl) (by decide) fun a hF => ?_
          refine s_grd 33 hF rfl rfl rfl ?_
          refine s_val hF (x_move rfl) (by decide) fun a hF => ?_
          refine s_grd 33 hF rfl rfl rfl ?_
          refine s_val hF (x_add (by omega) (by omega) rfl rfl) (by decide) fun a hF => ?_
          refine s_grd 33 hF rfl rfl rfl ?_
          refine s_val hF (x_move rfl) (by decide) fun a hF => ?_
          refine s_grd 33 hF rfl rfl rfl ?_
          refine s_call (R := fun u w' => (∃ b m, u = .bool b ∧ Blk w' g 3 [.int .i64 ((m : Nat) : Int)] ∧ cntR kd (d + 1) n2 b m) ∧ Ktw g g w16 w') hF [_, _, _] (enters_of Try.func44 (by kernel_rfl) rfl) rfl (by decide) (ih kd y (by omega) hry (d + 1) n2 w16 (by omega) (by omega) (by omega) hB mg) ?_
          rintro _ w18 a ⟨⟨b38, q8, rfl, mg, hc8⟩, k19⟩ hF
          have sk19 := k19.size
          have hB := k19.under hB (by omega)
          have hK := hK.trans k19 (by omega)
          have m8 := m8.k2 k19 (by omega)
          refine s_grd 33 hF rfl rfl rfl ?_
          refine s_val hF (x_not rfl) (by decide) fun a hF => ?_
          refine s_val hF (x_pick (b := false) rfl rfl) (by decide) fun a hF => ?_
          refine s_end (hK22 _ _ ?_)
          refine wp_ifb hF rfl (fun hc40 => ?_) (fun hc40 => ?_)
          · obtain rfl : b38 = false := by simpa using hc40
            refine wp_rs fun K23 hK23 => ?_
            refine s_val hF (x_assign rfl) (by decide) fun a hF => ?_
            refine s_end (hK23 _ _ ?_)
            refine wp_ret (inb_ret (then_ret (then_ret (inb_ret (then_ret (res_slot hF rfl rfl ⟨_, rfl, ⟨false, q8, rfl, mg, ⟨hc8.1, (fun h => absurd h (by decide)), fun _ h => hc8.2.2 rfl (by omega)⟩⟩, hK⟩))))))
          · obtain rfl : b38 = true := by simpa using hc40
            have hc9 := hc8.2.1 rfl
            have htk := take_snoc hyk
            refine wp_skip (hK17 _ _ ?_)
            refine wp_region_lit ?_
            refine s_val hF (x_addn (i + 1) (by omega) (by omega) rfl rfl) (by decide) fun a hF => ?_
            refine s_val hF (x_move rfl) (by decide) fun a hF => ?_
            refine s_end (hK' _ _ (by omega) ⟨q8, by omega, (fun k hk => by rw [htk] at hk; rcases List.mem_append.1 hk with hk | hk; (· exact hdk k hk); (· rw [List.mem_singleton.1 hk]; omega)), hc8.1, mg, hB, hK, hF.sub _ rfl⟩)
      · obtain rfl : i = c.kids.length := by omega
        rw [List.take_length] at hn2 hdk
        have hd9 := c.dep_top (2000 - d) (by omega) (fun k hk => by have := hdk k hk; omega)
        refine wp_exit (hK13 _ _ ?_)
        refine wp_rs fun K24 hK24 => ?_
        refine s_val hF (x_move rfl) (by decide) fun a hF => ?_
        refine s_val hF (x_nil rfl) (by decide) fun a hF => ?_
        refine s_val hF (x_load rfl (m_load flat3 (mg.cell (j := 0) rfl))) (by decide) fun a hF => ?_
        refine s_val hF (x_leq rfl rfl rfl) (by decide) fun a hF => ?_
        refine s_val hF (x_assign rfl) (by decide) fun a hF => ?_
        refine s_end (hK24 _ _ ?_)
        refine wp_ret (res_slot hF rfl rfl ⟨_, rfl, ⟨_, n2, rfl, mg, ⟨hn3, (fun h => ⟨by omega, by omega, .inl (by have := of_decide_eq_true h; omega)⟩), fun h h2 => by have := of_decide_eq_false h; omega⟩⟩, hK⟩)

set_option maxRecDepth 100000 in
set_option maxHeartbeats 400000 in
theorem TooGreat14 (c : CT) (x : C8) (w0 : World) (hx : RC w0 (fun k => k < w0.heap.size) c x) : Calls Try.prog 10 #[tv x] w0 fun e w' => e = .returned (.bool (decide (¬ c.ok))) ∧ Below w0.heap.size w0 w' := by
  have hB := Below.refl w0.heap.size w0
  have sB := hB.size
  refine calls_fs 7 [(0, tv x)] Try.func10 rfl rfl rfl rfl rfl fun a hF => ?_
  refine wp_rs fun K1 hK1 => ?_
  refine s_box (tc x) hF (by decide) rfl rfl fun w2 b1 a eb1 m1 B3 zb1 hF => ?_
  have sB3 := B3.size
  have hB := hB.trans (B3.mono hB.size)
  refine s_val hF (x_assign rfl) (by decide) fun a hF => ?_
  refine s_end (hK1 _ _ ?_)
  refine wp_rs fun K2 hK2 => ?_
  refine s_alloc1 hF (by decide) zero3 rfl fun w4 b3 a eb3 m3 B5 zb3 hF => ?_
  have sB5 := B5.size
  have hB := hB.trans (B5.mono hB.size)
  have m1 := m1.old B5
  refine s_put hF rfl rfl flat3 m3 (by first | (simp; done) | (simp [tc, lc]; done) | decide) rfl fun w6 m3 o7 => ?_
  have so7 := o7.size
  have hB := hB.trans (o7.below (by omega))
  have m1 := m1.only o7 (by omega)
  refine s_end (hK2 _ _ ?_)
  refine wp_rs fun K3 hK3 => ?_
  refine s_val hF (x_ldW wide27 m1 rfl rfl) (by decide) fun a hF => ?_
  refine s_call (R := fun u w' => (∃ b m, u = .bool b ∧ Blk w' b3 3 [.int .i64 ((m : Nat) : Int)] ∧ cntR c 1 0 b m) ∧ Ktw b3 b3 w6 w') hF [_, _, _] (enters_of Try.func44 (by kernel_rfl) rfl) rfl (by decide) (count55 w0 b3 (by omega) (c.size + 1) c x (by omega) hx 1 0 w6 (by decide) (by decide) (by decide) hB m3) ?_
  rintro _ w8 a ⟨⟨b8, m8, rfl, m3, hc8⟩, k9⟩ hF
  have sk9 := k9.size
  have hB := k9.under hB (by omega)
  have m1 := m1.k2 k9 (by omega)
  have hbo : b8 = decide c.ok := by
    have hsp := c.size_pos
    cases b8
    · exact (decide_eq_false fun h => hc8.2.2 rfl ⟨by have := h.1; omega, by have := h.2; omega⟩).symm
    · have h := hc8.2.1 rfl
      exact (decide_eq_true (show c.ok from ⟨by omega, by omega⟩)).symm
  refine s_val hF (x_not rfl) (by decide) fun a hF => ?_
  refine s_val hF (x_assign rfl) (by decide) fun a hF => ?_
  refine s_end (hK3 _ _ ?_)
  refine wp_ret (res_slot hF rfl rfl ⟨by rw [hbo]; simp, hB⟩)
end Go.Proofs.Ytaclncmkdpjnlaa

namespace Go.Proofs.Ytaclncmkdpjnlaa
open Go.RowKit Go.Shelf
set_option linter.unusedVariables false
set_option linter.unusedSimpArgs false

def dps (ks : List CT) : Nat := ks.foldl (fun m k => max m k.dep) 0
set_option maxRecDepth 100000 in
set_option maxHeartbeats 400000 in
theorem Size26 (c : CT) (x : C8) (w0 : World) (hx : RC w0 (fun k => k < w0.heap.size) c x) : Calls Try.prog 22 #[tv x] w0 fun e w' => e = .returned (.int .i64 (c.mN : Int)) ∧ Below w0.heap.size w0 w' := by
  have hB := Below.refl w0.heap.size w0
  have sB := hB.size
  refine calls_fs 8 [(0, tv x)] Try.func22 rfl rfl rfl rfl rfl fun a hF => ?_
  refine wp_rs fun K1 hK1 => ?_
  refine s_box (tc x) hF (by decide) rfl rfl fun w2 b1 a eb1 m1 B3 zb1 hF => ?_
  have sB3 := B3.size
  have hB := hB.trans (B3.mono hB.size)
  refine s_val hF (x_assign rfl) (by decide) fun a hF => ?_
  refine s_end (hK1 _ _ ?_)
  refine wp_rs fun K2 hK2 => ?_
  refine s_alloc1 hF (by decide) zero3 rfl fun w4 b3 a eb3 m3 B5 zb3 hF => ?_
  have sB5 := B5.size
  have hB := hB.trans (B5.mono hB.size)
  have m1 := m1.old B5
  refine s_put hF rfl rfl flat3 m3 (by first | (simp; done) | (simp [tc, lc]; done) | decide) rfl fun w6 m3 o7 => ?_
  have so7 := o7.size
  have hB := hB.trans (o7.below (by omega))
  have m1 := m1.only o7 (by omega)
  refine s_end (hK2 _ _ ?_)
  refine wp_seq_k fun K3 hK3 => ?_
  refine wp_rs fun K4 hK4 => ?_
  refine s_val hF (x_ldW wide27 m1 rfl rfl) (by decide) fun a hF => ?_
  refine s_call (R := fun u w' => (∃ b m, u = .bool b ∧ Blk w' b3 3 [.int .i64 ((m : Nat) : Int)] ∧ cntR c 1 0 b m) ∧ Ktw b3 b3 w6 w') hF [_, _, _] (enters_of Try.func44 (by kernel_rfl) rfl) rfl (by decide) (count55 w0 b3 (by omega) (c.size + 1) c x (by omega) hx 1 0 w6 (by decide) (by decide) (by decide) hB m3) ?_
  rintro _ w8 a ⟨⟨b8, m8, rfl, m3, hc8⟩, k9⟩ hF
  have sk9 := k9.size
  have hB := k9.under hB (by omega)
  have m1 := m1.k2 k9 (by omega)
  have hbo : b8 = decide c.ok := by
    have hsp := c.size_pos
    cases b8
    · exact (decide_eq_false fun h => hc8.2.2 rfl ⟨by have := h.1; omega, by have := h.2; omega⟩).symm
    · have h := hc8.2.1 rfl
      exact (decide_eq_true (show c.ok from ⟨by omega, by omega⟩)).symm
  refine s_val hF (x_not rfl) (by decide) fun a hF => ?_
  refine s_end (hK4 _ _ ?_)
  refine wp_ifb hF rfl (fun hc6 => ?_) (fun hc6 => ?_)
  · obtain rfl : b8 = false := by simpa using hc6
    refine wp_rs fun K5 hK5 => ?_
    refine s_val hF (x_assign rfl) (by decide) fun a hF => ?_
    refine s_end (hK5 _ _ ?_)
    have hz : c.mN = 0 := if_neg (of_decide_eq_false hbo.symm)
    refine wp_ret (then_ret ((res_slot hF rfl rfl ⟨by rw [hz]; rfl, hB⟩)))
  · obtain rfl : b8 = true := by simpa using hc6
    refine wp_skip (hK3 _ _ ?_)
    refine wp_rs fun K6 hK6 => ?_
    refine s_val hF (x_load rfl (m_load flat3 (m3.cell (j := 0) rfl))) (by decide) fun a hF => ?_
    refine s_val hF (x_assign rfl) (by decide) fun a hF => ?_
    refine s_end (hK6 _ _ ?_)
    have hz : c.mN = m8 := by rw [CT.mN, if_pos (of_decide_eq_true hbo.symm)]; have := (hc8.2.1 rfl).1; omega
    refine wp_ret (res_slot hF rfl rfl ⟨by rw [hz], hB⟩)

end Go.Proofs.Ytaclncmkdpjnlaa

namespace Go.Proofs.Ytaclncmkdpjnlaa
open Go.RowKit Go.Shelf
set_option linter.unusedVariables false
set_option linter.unusedSimpArgs false

def CT.leaves : CT → Int → List (CT × Int)
  | .two k a b m, d => a.leaves (d + (CT.two k a b m).bnd 0) ++ b.leaves (d + (CT.two k a b m).bnd 1)
  | .lt a b c m, d => a.leaves (d + (CT.lt a b c m).bnd 0) ++ (b.leaves (d + (CT.lt a b c m).bnd 1) ++ c.leaves (d + (CT.lt a b c m).bnd 2))
  | c, d => [(c, d)]
/-- The leaves of the first i kids. -/
def CT.lvK (c : CT) (d : Int) : Nat → List (CT × Int)
  | 0 => []
  | i + 1 => c.lvK d i ++ (match c.kids[i]? with | some k => k.leaves (d + c.bnd i) | none => [])
theorem CT.leaves_nil {c : CT} {d : Int} (h : c.kids = []) : c.leaves d = [(c, d)] := by cases c <;> simp [CT.kids] at h <;> rfl
theorem CT.leaves_lvK {c : CT} {d : Int} (h : c.kids.length ≠ 0) : c.leaves d = c.lvK d c.kids.length := by
  cases c <;> simp [CT.kids] at h <;> simp [CT.leaves, CT.lvK, CT.kids]
theorem CT.lvK_at {c k : CT} {d : Int} {i : Nat} (h : c.kids[i]? = some k) : c.lvK d (i + 1) = c.lvK d i ++ k.leaves (d + c.bnd i) := by simp [CT.lvK, h]
theorem CT.leaves_len : ∀ (c : CT) (d : Int), (c.leaves d).length ≤ c.size
  | .two k a b m, d => by
    have h1 := a.leaves_len (d + (CT.two k a b m).bnd 0)
    have h2 := b.leaves_len (d + (CT.two k a b m).bnd 1)
    simp only [CT.leaves, List.length_append, CT.size]
    omega
  | .lt a b c m, d => by
    have h1 := a.leaves_len (d + (CT.lt a b c m).bnd 0)
    have h2 := b.leaves_len (d + (CT.lt a b c m).bnd 1)
    have h3 := c.leaves_len (d + (CT.lt a b c m).bnd 2)
    simp only [CT.leaves, List.length_append, CT.size]
    omega
  | .var .., _ => Nat.le_refl _
  | .sort .., _ => Nat.le_refl _
  | .cst .., _ => Nat.le_refl _
  | .odd .., _ => Nat.le_refl _
def enc9 (e : C8 × Int) : List Value := tc e.1 ++ [.int .i64 e.2]
theorem fm9_app (es : List (C8 × Int)) (e : C8 × Int) : (es ++ [e]).flatMap enc9 = es.flatMap enc9 ++ enc9 e := by simp
/-- The elements are these leaves, which lie where w0's own blocks lie. -/
def LTw (w0 : World) (es : List (C8 × Int)) (ls : List (CT × Int)) : Prop := es.length = ls.length ∧ ∀ (j : Nat) e l, es[j]? = some e → ls[j]? = some l → RC w0 (fun k => k < w0.heap.size) l.1 e.1 ∧ e.2 = l.2
theorem LTw.nil (w0 : World) : LTw w0 [] [] := ⟨rfl, fun j e l h => by simp at h⟩
theorem LTw.snoc {w0 : World} {es : List (C8 × Int)} {ls : List (CT × Int)} {c : CT} {x : C8} {d : Int} (h : LTw w0 es ls) (hx : RC w0 (fun k => k < w0.heap.size) c x) : LTw w0 (es ++ [(x, d)]) (ls ++ [(c, d)]) := by
  refine ⟨by simp [h.1], fun j e l e1 e2 => ?_⟩
  rcases Nat.lt_or_ge j es.length with hj | hj
  · rw [List.getElem?_append_left hj] at e1
    rw [List.getElem?_append_left (by have := h.1; omega)] at e2
    exact h.2 j e l e1 e2
  · rw [List.getElem?_append_right hj] at e1
    rw [List.getElem?_append_right (by have := h.1; omega)] at e2
    have h0 : j - es.length = 0 := by have := (List.getElem?_eq_some_iff.1 e1).1; simp at this; omega
    have h1 : j - ls.length = 0 := by have := h.1; omega
    rw [h0] at e1
    rw [h1] at e2
    simp at e1 e2
    subst e1 e2
    exact ⟨hx, rfl⟩
theorem b90_01 (k n : Int) (s : ByteArray) (p q : Int) (a : Option Addr) (m c : Nat) (a2 : Option Addr) (m2 c2 : Nat) (a3 : Option Addr) (m3 c3 : Nat) (d : Int) (w : World) : (Instr.build 93 [(0, tv ⟨k, n, s, (p, q, .slice a m c), .slice a2 m2 c2, .slice a3 m3 c3⟩), (1, Value.int .i64 d)].toArray).run Try.prog w = .ok (.agg (enc9 (⟨k, n, s, (p, q, .slice a m c), .slice a2 m2 c2, .slice a3 m3 c3⟩, d)).toArray) w := run_build w 93 _ _ (by kernel_rfl)

set_option maxRecDepth 100000 in
set_option maxHeartbeats 400000 in
theorem ends80 (w0 : World) (q : Nat) : ∀ (N : Nat) (c : CT) (x : C8), c.size < N → RC w0 (fun k => k < w0.heap.size) c x → ∀ (d : Int) (v : Value) (o : Nat) (es : List (C8 × Int)) (ls : List (CT × Int)) (w1 : World), 0 ≤ d → d + c.dep ≤ 1000000 → es.length + c.size ≤ 1000000 → Below w0.heap.size w0 w1 → q ≤ w1.heap.size → w0.heap.size ≤ o → o < w1.heap.size → w1.ownsRow q 93 9 v es.length (es.flatMap enc9) → (∀ j, v.ownBlock = some j → j = o) → LTw w0 es ls →
    Calls Try.prog 77 #[tv x, .int .i64 d, v] w1 fun e w' => ∃ u, e = .returned u ∧ (∃ o' es', w'.ownsRow q 93 9 u es'.length (es'.flatMap enc9) ∧ (∀ j, u.ownBlock = some j → j = o') ∧ ((o' = o ∨ w1.heap.size ≤ o') ∧ o' < w'.heap.size) ∧ LTw w0 es' (ls ++ c.leaves d)) ∧ Ktw o o w1 w' := by
  intro N
  induction N with
  | zero => intro s x h; omega
  | succ N ih =>
  intro c x hN hx d v o es ls w1 hd0 hd1 hes hB hq1 ho0 ho1 hO hat hLT
  have hK := Ktw.refl o o w1
  have sB := hB.size
  have sK := hK.size
  have hrg := arT_rng c.kd
  have hk9 := CT.kids_arT hx
  have h3 := c.kids_le
  have hx0 := hx
  have hss := c.size_szs
  have h1v := (Rd.own hO).one
  obtain ⟨⟨l9, hl9⟩, ls9, hv9⟩ := hx.ok
  obtain ⟨av, nv, cv, hts, hle9, hlen9, hcap, hkid⟩ := hx.kids
  obtain ⟨xk, xn, xs, ⟨p1, p2, p3⟩, xls, xts⟩ := x
  obtain ⟨n9, cs9, hs9⟩ := hl9.slice
  obtain ⟨a9, d9, h9, _⟩ := hs9.form
  obtain ⟨a8, d8, h8, _⟩ := hv9.form
  simp only at hts h9 h8
  subst hts h9 h8
  have hkd : xk = c.kd := hx.kd
  subst hkd
  have hone := hx.one
  refine calls_fs 46 [(0, tv (⟨c.kd, xn, xs, (p1, p2, .slice a9 n9 d9), .slice a8 ls9.length d8, .slice av nv cv⟩ : C8)), (1, .int .i64 d), (2, v)] Try.func77 rfl rfl rfl rfl rfl fun a hF => ?_
  refine wp_rs fun K1 hK1 => ?_
  refine s_box ([.int .i64 c.kd, .int .i64 xn, .string xs, .int .i64 p1, .int .i64 p2, .slice a9 n9 d9, .slice a8 ls9.length d8, .slice av nv cv]) hF (by decide) rfl rfl fun w2 b3 a eb3 m3 B3 zb3 hF => ?_
  have sB3 := B3.size
  have hB := hB.trans (B3.mono hB.size)
  have hK := hK.below B3
  have hO := own_below hO B3
  refine s_val hF (x_assign rfl) (by decide) fun a hF => ?_
  refine s_end (hK1 _ _ ?_)
  refine wp_seq_k fun K2 hK2 => ?_
  rcases (show ((arT c.kd < 0 ∨ (c.len : Int) < arT c.kd) ∧ c.kids.length = 0) ∨ (¬ (arT c.kd < 0 ∨ (c.len : Int) < arT c.kd) ∧ arT c.kd = 0 ∧ c.kids.length = 0) ∨ (¬ (arT c.kd < 0 ∨ (c.len : Int) < arT c.kd) ∧ arT c.kd ≠ 0 ∧ (c.kids.length : Int) = arT c.kd) by omega) with hy | hy | hy
  · skip
    refine wp_rs fun K4 hK4 => ?_
    refine s_val hF (x_ldW wide27 m3 rfl rfl) (by decide) fun a hF => ?_
    refine s_callB [_] hF (enters_of Try.func59 (by kernel_rfl) rfl) rfl (by decide) ((leaf70 c (⟨c.kd, xn, xs, (p1, p2, .slice a9 n9 d9), .slice a8 ls9.length d8, .slice av nv cv⟩ : C8) _ w0 w2 hx0).mono fun e w' h => ⟨by rw [h.1, decide_eq_true hy.1], h.2⟩) fun w4 a B5 hF => ?_
    have sB5 := B5.size
    have hB := hB.trans (B5.mono hB.size)
    have hK := hK.below B5
    have hO := own_below hO B5
    have m3 := m3.old B5
    refine s_val hF (x_move rfl) (by decide) fun a hF => ?_
    refine s_grdn 11 hF rfl rfl (by decide) fun a hF => ?_
    refine s_grdn 11 hF rfl rfl (by decide) fun a hF => ?_
    refine s_grdn 11 hF rfl rfl (by decide) fun a hF => ?_
    refine s_grdn 11 hF rfl rfl (by decide) fun a hF => ?_
    refine s_val hF (x_pick (b := true) rfl rfl) (by decide) fun a hF => ?_
    refine s_end (hK4 _ _ ?_)
    refine wp_if hF rfl ?_
    refine wp_rs fun K5 hK5 => ?_
    refine s_val hF (x_move rfl) (by decide) fun a hF => ?_
    refine s_val hF (x_ldW wide27 m3 rfl rfl) (by decide) fun a hF => ?_
    refine s_val hF (x_move rfl) (by decide) fun a hF => ?_
    refine s_val hF (x_build (vs := [(0, _), (1, _)]) rfl (b90_01 _ _ _ _ _ _ _ _ _ _ _ _ _ _ _ _)) (by decide) fun a hF => ?_
    refine s_litG [(.agg (enc9 ((⟨c.kd, xn, xs, (p1, p2, .slice a9 n9 d9), .slice a8 ls9.length d8, .slice av nv cv⟩ : C8), d)).toArray)] el87 hF (by decide) rfl (by simp [Value.cells, enc9, tc]) rfl (by decide) (by decide) fun w6 bl a ebl ml B7 zbl hF => ?_
    have sB7 := B7.size
    have hB := hB.trans (B7.mono hB.size)
    have hK := hK.below B7
    have hO := own_below hO B7
    have m3 := m3.old B7
    have ml : Blk w6 bl 93 (enc9 ((⟨c.kd, xn, xs, (p1, p2, .slice a9 n9 d9), .slice a8 ls9.length d8, .slice av nv cv⟩ : C8), d)) := by simpa [Value.cells] using ml
    refine s_appL (o := o) el87 hF (by decide) rfl rfl hO ml rfl (by simp [enc9, tc, Value.oneCell']) hat (by omega) (by omega) (by decide) (by omega) fun v3 w8 a o3 hOn hOatn how hsrc k9 hkeep hF => ?_
    have sk9 := k9.size
    have hB := k9.under hB (by omega)
    have hK := hK.trans k9 (by omega)
    have m3 := m3.k2 k9 (by omega)
    have ml := ml.k2 k9 (by omega)
    have hO := hOn
    have hO_at := hOatn
    refine s_val hF (x_assign rfl) (by decide) fun a hF => ?_
    refine s_end (hK5 _ _ ?_)
    have hO2 : w8.ownsRow q 93 9 v3 (es ++ [((⟨c.kd, xn, xs, (p1, p2, .slice a9 n9 d9), .slice a8 ls9.length d8, .slice av nv cv⟩ : C8), d)]).length ((es ++ [((⟨c.kd, xn, xs, (p1, p2, .slice a9 n9 d9), .slice a8 ls9.length d8, .slice av nv cv⟩ : C8), d)]).flatMap enc9) := by rw [fm9_app]; simpa using hO
    have hk0 : c.kids = [] := List.eq_nil_of_length_eq_zero (by omega)
    refine wp_ret (then_ret (res_slot hF rfl rfl ⟨_, rfl, ⟨o3, _, hO2, hO_at, by omega, by rw [CT.leaves_nil hk0]; exact hLT.snoc hx0⟩, hK⟩))
  · skip
    refine wp_rs fun K6 hK6 => ?_
    refine s_val hF (x_ldW wide27 m3 rfl rfl) (by decide) fun a hF => ?_
    refine s_callB [_] hF (enters_of Try.func59 (by kernel_rfl) rfl) rfl (by decide) ((leaf70 c (⟨c.kd, xn, xs, (p1, p2, .slice a9 n9 d9), .slice a8 ls9.length d8, .slice av nv cv⟩ : C8) _ w0 w2 hx0).mono fun e w' h => ⟨by rw [h.1, decide_eq_false hy.1], h.2⟩) fun w10 a B11 hF => ?_
    have sB11 := B11.size
    have hB := hB.trans (B11.mono hB.size)
    have hK := hK.below B11
    have hO := own_below hO B11
    have m3 := m3.old B11
    refine s_val hF (x_move rfl) (by decide) fun a hF => ?_
    refine s_grd 11 hF rfl rfl rfl ?_
    refine s_val hF (x_fa0 fa27_0 rfl) (by decide) fun a hF => ?_
    refine s_grd 11 hF rfl rfl rfl ?_
    refine s_val hF (x_load rfl (m_load flat3 (m3.cell (j := 0) rfl))) (by decide) fun a hF => ?_
    refine s_grd 11 hF rfl rfl rfl ?_
    refine s_callS [_] hF (enters_of Try.func87 (by kernel_rfl) rfl) rfl (by decide) ((kids54 c.kd w10).mono fun e w' h => ⟨(by rw [h.1] : e = .returned (.int .i64 (arT c.kd))), h.2⟩) fun a hF => ?_
    refine s_grd 11 hF rfl rfl rfl ?_
    refine s_val hF (x_eql (b := true) (decide_eq_true (by omega)) rfl rfl) (by decide) fun a hF => ?_
    refine s_val hF (x_pick (b := false) rfl rfl) (by decide) fun a hF => ?_
    refine s_end (hK6 _ _ ?_)
    refine wp_if hF rfl ?_
    refine wp_rs fun K7 hK7 => ?_
    refine s_val hF (x_move rfl) (by decide) fun a hF => ?_
    refine s_val hF (x_ldW wide27 m3 rfl rfl) (by decide) fun a hF => ?_
    refine s_val hF (x_move rfl) (by decide) fun a hF => ?_
    refine s_val hF (x_build (vs := [(0, _), (1, _)]) rfl (b90_01 _ _ _ _ _ _ _ _ _ _ _ _ _ _ _ _)) (by decide) fun a hF => ?_
    refine s_litG [(.agg (enc9 ((⟨c.kd, xn, xs, (p1, p2, .slice a9 n9 d9), .slice a8 ls9.length d8, .slice av nv cv⟩ : C8), d)).toArray)] el87 hF (by decide) rfl (by simp [Value.cells, enc9, tc]) rfl (by decide) (by decide) fun w12 bl a ebl ml B13 zbl hF => ?_
    have sB13 := B13.size
    have hB := hB.trans (B13.mono hB.size)
    have hK := hK.below B13
    have hO := own_below hO B13
    have m3 := m3.old B13
    have ml : Blk w12 bl 93 (enc9 ((⟨c.kd, xn, xs, (p1, p2, .slice a9 n9 d9), .slice a8 ls9.length d8, .slice av nv cv⟩ : C8), d)) := by simpa [Value.cells] using ml
    refine s_appL (o := o) el87 hF (by decide) rfl rfl hO ml rfl (by simp [enc9, tc, Value.oneCell']) hat (by omega) (by omega) (by decide) (by omega) fun v3 w14 a o3 hOn hOatn how hsrc k15 hkeep hF => ?_
    have sk15 := k15.size
    have hB := k15.under hB (by omega)
    have hK := hK.trans k15 (by omega)
    have m3 := m3.k2 k15 (by omega)
    have ml := ml.k2 k15 (by omega)
    have hO := hOn
    have hO_at := hOatn
    refine s_val hF (x_assign rfl) (by decide) fun a hF => ?_
    refine s_end (hK7 _ _ ?_)
    have hO2 : w14.ownsRow q 93 9 v3 (es ++ [((⟨c.kd, xn, xs, (p1, p2, .slice a9 n9 d9), .slice a8 ls9.length d8, .slice av nv cv⟩ : C8), d)]).length ((es ++ [((⟨c.kd, xn, xs, (p1, p2, .slice a9 n9 d9), .slice a8 ls9.length d8, .slice av nv cv⟩ : C8), d)]).flatMap enc9) := by rw [fm9_app]; simpa using hO
    have hk0 : c.kids = [] := List.eq_nil_of_length_eq_zero (by omega)
    refine wp_ret (then_ret (res_slot hF rfl rfl ⟨_, rfl, ⟨o3, _, hO2, hO_at, by omega, by rw [CT.leaves_nil hk0]; exact hLT.snoc hx0⟩, hK⟩))
  · have hes0 := hLT.1
    refine wp_rs fun K8 hK8 => ?_
    refine s_val hF (x_ldW wide27 m3 rfl rfl) (by decide) fun a hF => ?_
    refine s_callB [_] hF (enters_of Try.func59 (by kernel_rfl) rfl) rfl (by decide) ((leaf70 c (⟨c.kd, xn, xs, (p1, p2, .slice a9 n9 d9), .slice a8 ls9.length d8, .slice av nv cv⟩ : C8) _ w0 w2 hx0).mono fun e w' h => ⟨by rw [h.1, decide_eq_false hy.1], h.2⟩) fun w16 a B17 hF => ?_
    have sB17 := B17.size
    have hB := hB.trans (B17.mono hB.size)
    have hK := hK.below B17
    have hO := own_below hO B17
    have m3 := m3.old B17
    refine s_val hF (x_move rfl) (by decide) fun a hF => ?_
    refine s_grd 11 hF rfl rfl rfl ?_
    refine s_val hF (x_fa0 fa27_0 rfl) (by decide) fun a hF => ?_
    refine s_grd 11 hF rfl rfl rfl ?_
    refine s_val hF (x_load rfl (m_load flat3 (m3.cell (j := 0) rfl))) (by decide) fun a hF => ?_
    refine s_grd 11 hF rfl rfl rfl ?_
    refine s_callS [_] hF (enters_of Try.func87 (by kernel_rfl) rfl) rfl (by decide) ((kids54 c.kd w16).mono fun e w' h => ⟨(by rw [h.1] : e = .returned (.int .i64 (arT c.kd))), h.2⟩) fun a hF => ?_
    refine s_grd 11 hF rfl rfl rfl ?_
    refine s_val hF (x_eql (b := false) (decide_eq_false (by omega)) rfl rfl) (by decide) fun a hF => ?_
    refine s_val hF (x_pick (b := false) rfl rfl) (by decide) fun a hF => ?_
    refine s_end (hK8 _ _ ?_)
    refine wp_if hF rfl ?_
    refine wp_skip (hK2 _ _ ?_)
    refine wp_seq_k fun K9 hK9 => ?_
    refine dk2_seq (w16.heap.size) (w16.heap.size) (ops := regOps Try.f77 3) (N := 8) (by kernel_rfl) wide_orders (by kernel_rfl) fun w18 hw18 B19 hS K10 hK10 => ?_
    have zw18 : w18.heap.size = w16.heap.size := by rw [hw18]
    have sB19 := B19.size
    have hB := hB.trans (B19.mono hB.size)
    have hK := hK.below B19
    have hO := own_below hO B19
    have m3 := m3.old B19
    have hO_d := hO
    have m3_d := m3
    have hB_d := hB
    have hK_d := hK
    refine d_val 0 23 (op := (Go.Op.fieldAddr 27 (Go.Operand.tmp 3) 5)) hF hS (by kernel_rfl) (fun W hW => x_fa0 fa27_5 rfl) (by kernel_rfl) (by decide) fun a hF => ?_
    refine d_val 1 24 (op := (Go.Op.load 25 (Go.Operand.tmp 23))) hF hS (by kernel_rfl) (fun W hW => x_load rfl (m_load flat25 ((m3_d.k2 hW (by omega)).cell (j := 7) rfl))) (by kernel_rfl) (by decide) fun a hF => ?_
    refine d_val 2 25 (op := (Go.Op.fieldAddr 27 (Go.Operand.tmp 3) 0)) hF hS (by kernel_rfl) (fun W hW => x_fa0 fa27_0 rfl) (by kernel_rfl) (by decide) fun a hF => ?_
    refine d_val 3 26 (op := (Go.Op.load 3 (Go.Operand.tmp 25))) hF hS (by kernel_rfl) (fun W hW => x_load rfl (m_load flat3 ((m3_d.k2 hW (by omega)).cell (j := 0) rfl))) (by kernel_rfl) (by decide) fun a hF => ?_
    refine d_val 7 30 (op := (Go.Op.move (Go.Operand.const (Go.Value.int Go.IntKind.i64 0)))) hF hS (by kernel_rfl) (fun W hW => x_move rfl) (by kernel_rfl) (by decide) fun a hF => ?_
    refine d_one 4 (some 27) (Go.Op.call (Go.Call.mk (Go.Callee.value (Go.Operand.func 87)) #[(Go.Operand.tmp 26)] #[3])) (by kernel_rfl) (by kernel_rfl) fun ty pos af => ?_
    refine s_callS [_] hF (enters_of Try.func87 (by kernel_rfl) rfl) rfl (by decide) ((kids54 c.kd w18).mono fun e w' h => ⟨(by rw [h.1, ← hy.2.2] : e = .returned (.int .i64 (c.kids.length : Int))), h.2⟩) fun a hF => ?_
    refine s_end ⟨hS, ?_⟩
    refine d_val 5 28 (op := (Go.Op.slice 25 (Go.Operand.tmp 24) none (some (Go.Operand.tmp 27)) none)) hF hS (by kernel_rfl) (fun W hW => x_slice (vlo := none) (vhi := some _) (vmx := none) rfl rfl rfl rfl (m_sliceUK c.kids.length Try.underlying25 el25.size (by omega) (by omega))) (by kernel_rfl) (by decide) fun a hF => ?_
    refine d_val 6 29 (op := (Go.Op.call (Go.Call.mk (Go.Callee.builtin Go.Builtin.len) #[(Go.Operand.tmp 28)] #[25]))) hF hS (by kernel_rfl) (fun W hW => x_len Try.underlying25 rfl) (by kernel_rfl) (by decide) fun a hF => ?_
    refine d_end (by kernel_rfl) (hK10 _ _ ?_)
    refine wp_block ?_
    refine wp_up c.kids.length (fun i a w => ∃ v' o' es', w.ownsRow q 93 9 v' es'.length (es'.flatMap enc9) ∧ (∀ j, v'.ownBlock = some j → j = o') ∧ ((o' = o ∨ b3 < o') ∧ o' < w.heap.size) ∧ LTw w0 es' (ls ++ c.lvK d i) ∧ (c.lvK d i).length ≤ szs (c.kids.take i) ∧ Blk w b3 27 [.int .i64 c.kd, .int .i64 xn, .string xs, .int .i64 p1, .int .i64 p2, .slice a9 n9 d9, .slice a8 ls9.length d8, .slice av nv cv] ∧ Below w0.heap.size w0 w ∧ Ktw o o w1 w ∧ Fs 46 a [(1, .int .i64 d), (2, v'), (3, .pointer (some ⟨b3, 0, none⟩)), (28, .slice av c.kids.length cv), (29, .int .i64 (c.kids.length : Int)), (30, .int .i64 (i : Int))]) ⟨v, o, es, hO, hat, by omega, by simpa [CT.lvK] using hLT, by simp [CT.lvK], m3, hB, hK, hF.sub _ rfl⟩ ?_
    have hb3 : w1.heap.size ≤ b3 := by omega
    repeat clear hF
    clear hB hK m3 hO hat hLT
    rintro i a w hi ⟨vv, o2, es2, hO, hat, hlo, hLT, hll, m3, hB, hK, hF⟩ K' hK'
    have sB := hB.size
    have sK := hK.size
    have hb3l := m3.lt
    have hL1 := hLT.1
    have hes1 : es.length = ls.length := hes0
    rw [List.length_append] at hL1
    have h1vv := (Rd.own hO).one
    refine wp_rs fun K11 hK11 => ?_
    refine s_val hF (x_lss (b := decide (i < c.kids.length)) (decide_eq_decide.2 (by omega)) rfl rfl) (by decide) fun a hF => ?_
    refine s_end (hK11 _ _ ?_)
    refine wp_seq_k fun K12 hK12 => ?_
    refine wp_iff hF rfl (fun hc31 => ?_) (fun hc31 => ?_)
    · obtain ⟨b9, off9, c9, y, kd, hve, hyk, hry, hAb, hbl, hrow⟩ := hkid.row (i := i) (by omega)
      cases hve
      have hks := CT.kid_size hyk
      have hsz := szs_at hyk
      have hlv := CT.lvK_at (d := d) hyk
      have hll2 := kd.leaves_len (d + c.bnd i)
      have hbi := c.bnd_is i
      refine wp_skip (hK12 _ _ ?_)
      refine wp_seq_k fun K13 hK13 => ?_
      refine wp_block ?_
      refine wp_rs fun K14 hK14 => ?_
      refine s_val hF (x_move rfl) (by decide) fun a hF => ?_
      refine s_val hF (x_ixa rfl rfl (m_ixsK i Try.underlying25 el25.size rfl (by omega))) (by decide) fun a hF => ?_
      refine s_val hF (x_ldA wide27 (hrow _ (hB.block _ hbl)) rfl rfl) (by decide) fun a hF => ?_
      refine s_alloc hF (by decide) zero27 fun w20 b8 a eb8 m8 B21 zb8 hF => ?_
      have sB21 := B21.size
      have hB := hB.trans (B21.mono hB.size)
      have hK := hK.below B21
      have m3 := m3.old B21
      have hO := own_below hO B21
      refine s_val hF (x_assign rfl) (by decide) fun a hF => ?_
      refine s_putW hF rfl rfl (size_wide wide27) m8 rfl hry.one fun w24 m8 o25 => ?_
      have so25 := o25.size
      have hB := hB.trans (o25.below (by omega))
      have hK := hK.only o25 (by omega)
      have m3 := m3.only o25 (by omega)
      have hO := own_only hO o25 (fun e => by have := hat _ e; omega)
      refine s_end (hK14 _ _ ?_)
      refine dk2_one (o2) (o2) (ops := regOps Try.f77 6) (N := 10) (by kernel_rfl) wide_orders (by kernel_rfl) fun w26 hw26 B27 hS K15 hK15 => ?_
      have zw26 : w26.heap.size = w24.heap.size := by rw [hw26]
      have sB27 := B27.size
      have hB := hB.trans (B27.mono hB.size)
      have hK := hK.below B27
      have m3 := m3.old B27
      have hO := own_below hO B27
      have m8 := m8.old B27
      have m3_d := m3
      have hO_d := hO
      have m8_d := m8
      have hB_d := hB
      have hK_d := hK
      refine d_val 0 35 (op := (Go.Op.load 27 (Go.Operand.tmp 8))) hF hS (by kernel_rfl) (fun W hW => x_ldW wide27 (m8_d.k2 hW (by omega)) rfl rfl) (by kernel_rfl) (by decide) fun a hF => ?_
      refine d_val 1 36 (op := (Go.Op.move (Go.Operand.tmp 1))) hF hS (by kernel_rfl) (fun W hW => x_move rfl) (by kernel_rfl) (by decide) fun a hF => ?_
      refine d_val 2 37 (op := (Go.Op.fieldAddr 27 (Go.Operand.tmp 3) 0)) hF hS (by kernel_rfl) (fun W hW => x_fa0 fa27_0 rfl) (by kernel_rfl) (by decide) fun a hF => ?_
      refine d_val 3 38 (op := (Go.Op.load 3 (Go.Operand.tmp 37))) hF hS (by kernel_rfl) (fun W hW => x_load rfl (m_load flat3 ((m3_d.k2 hW (by omega)).cell (j := 0) rfl))) (by kernel_rfl) (by decide) fun a hF => ?_
      refine d_val 4 39 (op := (Go.Op.move (Go.Operand.tmp 7))) hF hS (by kernel_rfl) (fun W hW => x_move rfl) (by kernel_rfl) (by decide) fun a hF => ?_
      refine d_val 7 42 (op := (Go.Op.move (Go.Operand.tmp 2))) hF hS (by kernel_rfl) (fun W hW => x_move rfl) (by kernel_rfl) (by decide) fun a hF => ?_
      refine d_one 5 (some 40) (Go.Op.call (Go.Call.mk (Go.Callee.value (Go.Operand.func 106)) #[(Go.Operand.tmp 38), (Go.Operand.tmp 39)] #[3, 3])) (by kernel_rfl) (by kernel_rfl) fun ty pos af => ?_
      refine s_callB [_, _] hF (enters_of Try.func106 (by kernel_rfl) rfl) rfl (by decide) (rbinds114 c _ _ i w0 w26 hx0 (by omega)) fun w28 a B29 hF => ?_
      have sB29 := B29.size
      have hB := hB.trans (B29.mono hB.size)
      have hK := hK.below B29
      have m3 := m3.old B29
      have hO := own_below hO B29
      have m8 := m8.old B29
      have hS := hS.below B29
      refine s_end ⟨hS, ?_⟩
      refine d_val 6 41 (op := (Go.Op.binOp Go.BinOp.add 3 (Go.Operand.tmp 36) (Go.Operand.tmp 40) 3)) hF hS (by kernel_rfl) (fun W hW => x_add (by omega) (by omega) rfl rfl) (by kernel_rfl) (by decide) fun a hF => ?_
      refine d_one 8 (some 43) (Go.Op.call (Go.Call.mk (Go.Callee.value (Go.Operand.func 77)) #[(Go.Operand.tmp 35), (Go.Operand.tmp 41), (Go.Operand.tmp 42)] #[27, 3, 90])) (by kernel_rfl) (by kernel_rfl) fun ty pos af => ?_
      refine s_call (R := fun u w' => ((∃ o' es', w'.ownsRow q 93 9 u es'.length (es'.flatMap enc9) ∧ (∀ j, u.ownBlock = some j → j = o') ∧ ((o' = o2 ∨ w28.heap.size ≤ o') ∧ o' < w'.heap.size) ∧ LTw w0 es' ((ls ++ c.lvK d i) ++ kd.leaves (d + c.bnd i)))) ∧ Ktw o2 o2 w28 w') hF [_, _, _] (enters_of Try.func77 (by kernel_rfl) rfl) rfl (by decide) (ih kd y (by omega) hry (d + c.bnd i) vv o2 es2 (ls ++ c.lvK d i) w28 (by omega) (by omega) (by omega) hB (by omega) (by omega) (by omega) hO hat hLT) ?_
      rintro v4 w30 a ⟨⟨o4, es4, hO, hat, hlo4, hLT⟩, k31⟩ hF
      have sk31 := k31.size
      have hB := k31.under hB (by omega)
      have hK := hK.trans k31 (by omega)
      have m3 := m3.k2 k31 (by omega)
      have m8 := m8.k2 k31 (by omega)
      have hS := hS.trans k31 (by omega)
      refine s_end ⟨hS, ?_⟩
      refine d_val 9 2 (op := (Go.Op.assign (Go.Operand.tmp 43))) hF hS (by kernel_rfl) (fun W hW => x_assign rfl) (by kernel_rfl) (by decide) fun a hF => ?_
      refine d_end (by kernel_rfl) (hK15 _ _ ?_)
      refine hK13 _ _ ?_
      refine wp_region_lit ?_
      refine s_val hF (x_addn (i + 1) (by omega) (by omega) rfl rfl) (by decide) fun a hF => ?_
      refine s_val hF (x_move rfl) (by decide) fun a hF => ?_
      refine s_end (hK' _ _ (by omega) ⟨v4, o4, es4, hO, hat, by omega, by rw [hlv, ← List.append_assoc]; exact hLT, by rw [hlv, List.length_append]; omega, m3, hB, hK, hF.sub _ rfl⟩)
    · obtain rfl : i = c.kids.length := by omega
      refine wp_exit (hK9 _ _ ?_)
      refine wp_rs fun K16 hK16 => ?_
      refine s_val hF (x_move rfl) (by decide) fun a hF => ?_
      refine s_val hF (x_assign rfl) (by decide) fun a hF => ?_
      refine s_end (hK16 _ _ ?_)
      refine wp_ret (res_slot hF rfl rfl ⟨_, rfl, ⟨o2, es2, hO, hat, by omega, by rw [CT.leaves_lvK (by omega)]; exact hLT⟩, hK⟩)
end Go.Proofs.Ytaclncmkdpjnlaa

namespace Go.Proofs.Ytaclncmkdpjnlaa
open Go.RowKit Go.Shelf
set_option linter.unusedVariables false
set_option linter.unusedSimpArgs false

theorem fa90_0 : fldB Try.prog 93 0 0 = true := by kernel_rfl
theorem fa90_1 : fldB Try.prog 93 1 8 = true := by kernel_rfl
theorem zero90 : (Try.prog.info? 93).bind (·.zero) = some (.agg (z8 ++ [Value.int .i64 0]).toArray) := by kernel_rfl
theorem one9 {y : C8} {d : Int} (h : ∀ u ∈ tc y, u.oneCell' = true) : ∀ u ∈ enc9 (y, d), u.oneCell' = true := by
  intro u hu
  rcases List.mem_append.1 hu with hu | hu
  · exact h u hu
  · rw [List.mem_singleton.1 hu]; rfl
theorem rd_row9 {W : World} {v : Value} {xs : List (C8 × Int)} (h : Rd W v 9 xs.length (xs.flatMap enc9)) {i : Nat} (hi : i < xs.length) :
    ∃ b off c x, v = .slice (some ⟨b, off, none⟩) xs.length c ∧ xs[i]? = some x ∧ ∀ W', Below W.heap.size W W' → ∀ j u, (enc9 x)[j]? = some u → W'.cell? ((⟨b, off + i * 9, none⟩ : Addr).add j) = some u := by
  obtain ⟨b, off, c, rfl, hb⟩ := h.some (by omega)
  refine ⟨b, off, c, xs[i], rfl, List.getElem?_eq_getElem hi, fun W' hB j u hj => ?_⟩
  rw [addr_addn, Nat.add_assoc]
  have hl : ∀ e, (enc9 e).length = 9 := fun e => by simp [enc9, tc]
  have h2 : ∀ (xs : List (C8 × Int)) (i : Nat) (hi : i < xs.length), (enc9 xs[i])[j]? = some u → (xs.flatMap enc9)[i * 9 + j]? = some u := by
    intro xs
    induction xs with
    | nil => intro i hi; simp at hi
    | cons y xs ih =>
      intro i hi hj
      have hj2 : j < 9 := by have := (List.getElem?_eq_some_iff.1 hj).1; rw [hl] at this; exact this
      cases i with
      | zero => rw [List.flatMap_cons, List.getElem?_append_left (by rw [hl]; omega)]; simpa using hj
      | succ i => rw [List.flatMap_cons, List.getElem?_append_right (by rw [hl]; omega), show (i + 1) * 9 + j - (enc9 y).length = i * 9 + j by rw [hl]; omega]; exact ih i (by simpa using hi) (by simpa using hj)
  exact (hB.cell (p := ⟨b, off + (i * 9 + j), none⟩) hb).trans (h.cell (h2 xs i hi hj))
def lstL (n : Int) (l : CT × Int) : Int := max n (match l.1 with | .var k _ => if l.2 ≤ k then min (k - l.2 + 1) 9223372036854775807 else 0 | _ => 0)
theorem CT.leaves_ge : ∀ (c : CT) (d : Int), ∀ l ∈ c.leaves d, d ≤ l.2
  | .two k a b m, d, l, h => by
    have h1 := (CT.two k a b m).bnd_is 0
    have h2 := (CT.two k a b m).bnd_is 1
    rcases List.mem_append.1 h with h | h
    · have := a.leaves_ge _ l h; omega
    · have := b.leaves_ge _ l h; omega
  | .lt a b c m, d, l, h => by
    have h1 := (CT.lt a b c m).bnd_is 0
    have h2 := (CT.lt a b c m).bnd_is 1
    have h3 := (CT.lt a b c m).bnd_is 2
    rcases List.mem_append.1 h with h | h
    · have := a.leaves_ge _ l h; omega
    · rcases List.mem_append.1 h with h | h
      · have := b.leaves_ge _ l h; omega
      · have := c.leaves_ge _ l h; omega
  | .var .., d, l, h => by simp [CT.leaves] at h; subst h; exact Int.le_refl _
  | .sort .., d, l, h => by simp [CT.leaves] at h; subst h; exact Int.le_refl _
  | .cst .., d, l, h => by simp [CT.leaves] at h; subst h; exact Int.le_refl _
  | .odd .., d, l, h => by simp [CT.leaves] at h; subst h; exact Int.le_refl _
def isC (s : ByteArray) : CT → Bool
  | .cst t _ _ => decide (t = s)
  | _ => false
def CT.menR (c : CT) (s : ByteArray) : Bool := decide c.ok && (c.leaves 0).any (fun l => isC s l.1)

end Go.Proofs.Ytaclncmkdpjnlaa

namespace Go.Proofs.Ytaclncmkdpjnlaa
set_option linter.unusedVariables false
set_option linter.unusedSimpArgs false

/-- Lifting without an end: by b what is d or more. -/
def PT.sh (b : Int) : PT → Int → PT
  | .var n, d => .var (if d ≤ n then n + b else n)
  | .two k p q, d => .two k (p.sh b d) (q.sh b (d + if k = 3 ∨ k = 4 then 1 else 0))
  | .lt p q r, d => .lt (p.sh b d) (q.sh b d) (r.sh b (d + 1))
  | .sort o, _ => .sort o
  | .cst s os, _ => .cst s os
  | .odd k, _ => .odd k
def PT.pu (v : PT) : PT → Int → PT
  | .var n, d => if n = d then v.sh d 0 else .var (if d < n then n - 1 else n)
  | .two k p q, d => .two k (PT.pu v p d) (PT.pu v q (d + if k = 3 ∨ k = 4 then 1 else 0))
  | .lt p q r, d => .lt (PT.pu v p d) (PT.pu v q d) (PT.pu v r (d + 1))
  | .sort o, _ => .sort o
  | .cst s os, _ => .cst s os
  | .odd k, _ => .odd k
/-- Its variables are from 0 to M. -/
def PT.bd (M : Int) : PT → Prop
  | .var n => 0 ≤ n ∧ n ≤ M
  | .two _ p q => p.bd M ∧ q.bd M
  | .lt p q r => p.bd M ∧ q.bd M ∧ r.bd M
  | _ => True
theorem PT.bd.mono {M N : Int} (h : M ≤ N) : ∀ {p : PT}, p.bd M → p.bd N
  | .var n, h1 => ⟨h1.1, by have := h1.2; omega⟩
  | .two _ p q, h1 => ⟨PT.bd.mono h h1.1, PT.bd.mono h h1.2⟩
  | .lt p q r, h1 => ⟨PT.bd.mono h h1.1, PT.bd.mono h h1.2.1, PT.bd.mono h h1.2.2⟩
  | .sort _, _ => trivial
  | .cst _ _, _ => trivial
  | .odd _, _ => trivial
theorem PT.size_one (p : PT) : 1 ≤ p.size := by cases p <;> simp [PT.size]
/-- How often variable d stands in it, as seen beneath d binders. -/
def PT.occ : PT → Int → Nat
  | .var n, d => if n = d then 1 else 0
  | .two k p q, d => p.occ d + q.occ (d + if k = 3 ∨ k = 4 then 1 else 0)
  | .lt p q r, d => p.occ d + q.occ d + r.occ (d + 1)
  | _, _ => 0
end Go.Proofs.Ytaclncmkdpjnlaa

namespace Go.Proofs.Ytaclncmkdpjnlaa
open Go.RowKit Go.Shelf
set_option linter.unusedVariables false
set_option linter.unusedSimpArgs false

def occL (l : CT × Int) : Nat := match l.1 with | .var n _ => if n = l.2 then 1 else 0 | _ => 0
theorem leaves_occ : ∀ (c : CT) (d : Int), ((c.leaves d).map occL).sum = c.ess.occ d
  | .two k a b m, d => by
    simp only [CT.leaves, List.map_append, List.sum_append, CT.ess, PT.occ]
    rw [leaves_occ a _, leaves_occ b _]
    simp only [bnd2_0, bnd2_1, Int.add_zero]
  | .lt a b c m, d => by
    simp only [CT.leaves, List.map_append, List.sum_append, CT.ess, PT.occ]
    rw [leaves_occ a _, leaves_occ b _, leaves_occ c _]
    simp only [bnd3_0, bnd3_1, bnd3_2, Int.add_zero]
    omega
  | .var .., d => by simp [CT.leaves, occL, CT.ess, PT.occ]
  | .sort .., d => by simp [CT.leaves, occL, CT.ess, PT.occ]
  | .cst .., d => by simp [CT.leaves, occL, CT.ess, PT.occ]
  | .odd .., d => by simp [CT.leaves, occL, CT.ess, PT.occ]
theorem CT.leaves_le : ∀ (c : CT) (d : Int), ∀ l ∈ c.leaves d, l.2 ≤ d + c.dep
  | .two k a b m, d, l, h => by
    have h1 := (CT.two k a b m).bnd_is 0
    have h2 := (CT.two k a b m).bnd_is 1
    simp only [CT.dep]
    rcases List.mem_append.1 h with h | h
    · have := a.leaves_le _ l h; omega
    · have := b.leaves_le _ l h; omega
  | .lt a b c m, d, l, h => by
    have h1 := (CT.lt a b c m).bnd_is 0
    have h2 := (CT.lt a b c m).bnd_is 1
    have h3 := (CT.lt a b c m).bnd_is 2
    simp only [CT.dep]
    rcases List.mem_append.1 h with h | h
    · have := a.leaves_le _ l h; omega
    · rcases List.mem_append.1 h with h | h
      · have := b.leaves_le _ l h; omega
      · have := c.leaves_le _ l h; omega
  | .var .., d, l, h => by simp [CT.leaves] at h; subst h; simp only [CT.dep]; omega
  | .sort .., d, l, h => by simp [CT.leaves] at h; subst h; simp only [CT.dep]; omega
  | .cst .., d, l, h => by simp [CT.leaves] at h; subst h; simp only [CT.dep]; omega
  | .odd .., d, l, h => by simp [CT.leaves] at h; subst h; simp only [CT.dep]; omega

set_option maxRecDepth 100000 in
set_option maxHeartbeats 400000 in
theorem Occurs51 (c : CT) (x : C8) (w0 : World) (hx : RC w0 (fun k => k < w0.heap.size) c x) (hk1 : c.ok) : Calls Try.prog 40 #[tv x, .int .i64 0] w0 fun e w' => e = .returned (.int .i64 (c.ess.occ 0 : Int)) ∧ Below w0.heap.size w0 w' := by
  have hB := Below.refl w0.heap.size w0
  have sB := hB.size
  refine calls_fs 33 [(0, tv x), (1, .int .i64 0)] Try.func40 rfl rfl rfl rfl rfl fun a hF => ?_
  refine wp_rs fun K1 hK1 => ?_
  refine s_box (tc x) hF (by decide) rfl rfl fun w2 b2 a eb2 m2 B3 zb2 hF => ?_
  have sB3 := B3.size
  have hB := hB.trans (B3.mono hB.size)
  refine s_val hF (x_assign rfl) (by decide) fun a hF => ?_
  refine s_end (hK1 _ _ ?_)
  refine wp_rs fun K2 hK2 => ?_
  refine s_val hF (x_assign rfl) (by decide) fun a hF => ?_
  refine s_end (hK2 _ _ ?_)
  refine wp_seq_k fun K3 hK3 => ?_
  refine wp_rs fun K4 hK4 => ?_
  refine s_val hF (x_ldW wide27 m2 rfl rfl) (by decide) fun a hF => ?_
  refine s_call (R := fun u w' => ((∃ o' es', w'.ownsRow w0.heap.size 93 9 u es'.length (es'.flatMap enc9) ∧ (∀ j, u.ownBlock = some j → j = o') ∧ ((o' = b2 ∨ w2.heap.size ≤ o') ∧ o' < w'.heap.size) ∧ LTw w0 es' ([] ++ c.leaves 0))) ∧ Ktw b2 b2 w2 w') hF [_, _, _] (enters_of Try.func77 (by kernel_rfl) rfl) rfl (by decide) (ends80 w0 w0.heap.size (c.size + 1) c x (by omega) hx 0 nilS b2 [] [] w2 (by decide) (by have := hk1.2; omega) (by have := hk1.1; simp; omega) hB hB.size (by omega) (by omega) (World.ownsRow_nil _ _ _ _) (fun j h => by cases h) (LTw.nil _)) ?_
  rintro v10 w4 a ⟨⟨o9, es9, hO9, _, _, hLT⟩, k5⟩ hF
  have sk5 := k5.size
  have hB := k5.under hB (by omega)
  rw [List.nil_append] at hLT
  have hR9 := Rd.own hO9
  have hl9 := hLT.1
  have hl8 := c.leaves_len 0
  have hk2 := hk1.1
  obtain ⟨a10, c10, hv10, _⟩ := hR9.form
  subst hv10
  refine s_val hF (x_len Try.underlying90 rfl) (by decide) fun a hF => ?_
  refine s_val hF (x_move rfl) (by decide) fun a hF => ?_
  refine s_end (hK4 _ _ ?_)
  refine wp_block ?_
  refine wp_up es9.length (fun i a w => ∃ m : Nat, m = (((c.leaves 0).take i).map occL).sum ∧ m ≤ i ∧ Below w0.heap.size w0 w ∧ Below w4.heap.size w4 w ∧ Fs 33 a [(1, .int .i64 0), (5, .int .i64 (m : Int)), (9, .slice a10 es9.length c10), (10, .int .i64 (es9.length : Int)), (11, .int .i64 (i : Int))]) ⟨0, by simp, by omega, hB, Below.refl _ _, hF.sub _ rfl⟩ ?_
  repeat clear hF
  clear hB
  rintro i a w hi ⟨m, hm, hmr, hB, hBA, hF⟩ K' hK'
  have sB := hB.size
  have sBA := hBA.size
  refine wp_rs fun K5 hK5 => ?_
  refine s_val hF (x_lss (b := decide (i < es9.length)) (decide_eq_decide.2 (by omega)) rfl rfl) (by decide) fun a hF => ?_
  refine s_end (hK5 _ _ ?_)
  refine wp_seq_k fun K6 hK6 => ?_
  refine wp_iff hF rfl (fun hc12 => ?_) (fun hc12 => ?_)
  · obtain ⟨b9, off9, c9, e9, hve, he9, hrow⟩ := rd_row9 hR9 (i := i) (by omega)
    cases hve
    obtain ⟨y, dd⟩ := e9
    obtain ⟨⟨lc9, ld9⟩, hlf⟩ : ∃ l, (c.leaves 0)[i]? = some l := ⟨_, List.getElem?_eq_getElem (by omega)⟩
    obtain ⟨hry, hdd⟩ := hLT.2 i _ _ he9 hlf
    simp only at hry hdd
    subst hdd
    have hge := c.leaves_ge 0 _ (List.mem_of_getElem? hlf)
    simp only at hge
    have htk := take_snoc hlf
    have hle := c.leaves_le 0 _ (List.mem_of_getElem? hlf)
    simp only at hle
    have hkd := hk1.2
    refine wp_skip (hK6 _ _ ?_)
    refine wp_seq_k fun K7 hK7 => ?_
    refine wp_block ?_
    refine wp_rs fun K8 hK8 => ?_
    refine s_val hF (x_ixa rfl rfl (m_ixsK i Try.underlying90 el87.size rfl (by omega))) (by decide) fun a hF => ?_
    refine s_val hF (x_ldA wide90 (hrow _ hBA) rfl rfl) (by decide) fun a hF => ?_
    refine s_alloc hF (by decide) zero90 fun w6 b7 a eb7 m7 B7 zb7 hF => ?_
    have sB7 := B7.size
    have hB := hB.trans (B7.mono hB.size)
    have hBA := hBA.trans (B7.mono hBA.size)
    refine s_putW hF rfl rfl (size_wide wide90) m7 rfl (one9 hry.one) fun w10 m7 o11 => ?_
    have so11 := o11.size
    have hB := hB.trans (o11.below (by omega))
    have hBA := hBA.trans (o11.below (by omega))
    refine s_end (hK8 _ _ ?_)
    rcases (show (y.k = 1 ∧ y.n = dd) ∨ (y.k = 1 ∧ ¬ y.n = dd) ∨ y.k ≠ 1 by omega) with hq | hq | hq
    · obtain ⟨n9, m9_, rfl⟩ := hry.var_of (show y.k = 1 from hq.1)
      have hn9 : y.n = n9 := hry.2.1
      have hn64 := hry.2.2.1
      unfold in64 at hn64
      have hls : occL (.var n9 m9_, dd) = 1 := by simp only [occL]; rw [if_pos (by omega)]
      refine wp_rs fun K10 hK10 => ?_
      refine s_val hF (x_fa0 fa90_0 rfl) (by decide) fun a hF => ?_
      refine s_val hF (x_fa0 fa27_0 rfl) (by decide) fun a hF => ?_
      refine s_val hF (x_load rfl (m_load flat3 (m7.cell (j := 0) rfl))) (by decide) fun a hF => ?_
      refine s_val hF (x_eql (b := true) (decide_eq_true (show y.k = 1 from hq.1)) rfl rfl) (by decide) fun a hF => ?_
      refine s_val hF (x_move rfl) (by decide) fun a hF => ?_
      refine s_grd 19 hF rfl rfl rfl ?_
      refine s_val hF (x_fa0 fa90_0 rfl) (by decide) fun a hF => ?_
      refine s_grd 19 hF rfl rfl rfl ?_
      refine s_val hF (x_fa0 fa27_1 rfl) (by decide) fun a hF => ?_
      refine s_grd 19 hF rfl rfl rfl ?_
      refine s_val hF (x_load rfl (m_load flat3 (m7.cell (j := 1) rfl))) (by decide) fun a hF => ?_
      refine s_grd 19 hF rfl rfl rfl ?_
      refine s_val hF (x_move rfl) (by decide) fun a hF => ?_
      refine s_grd 19 hF rfl rfl rfl ?_
      refine s_val hF (x_fa0 fa90_1 rfl) (by decide) fun a hF => ?_
      refine s_grd 19 hF rfl rfl rfl ?_
      refine s_val hF (x_load rfl (m_load flat3 (m7.cell (j := 8) rfl))) (by decide) fun a hF => ?_
      refine s_grd 19 hF rfl rfl rfl ?_
      refine s_val hF (x_add (p := 0) (q := dd) (by omega) (by omega) rfl rfl) (by decide) fun a hF => ?_
      refine s_grd 19 hF rfl rfl rfl ?_
      refine s_val hF (x_eql (p := y.n) (q := 0 + dd) (b := true) (decide_eq_true (by omega)) rfl rfl) (by decide) fun a hF => ?_
      refine s_val hF (x_pick (b := true) rfl rfl) (by decide) fun a hF => ?_
      refine s_end (hK10 _ _ ?_)
      refine wp_if hF rfl ?_
      refine wp_region_lit ?_
      refine s_val hF (x_move rfl) (by decide) fun a hF => ?_
      refine s_val hF (x_addn (m + 1) (by omega) (by omega) rfl rfl) (by decide) fun a hF => ?_
      refine s_val hF (x_assign rfl) (by decide) fun a hF => ?_
      refine s_end (hK7 _ _ ?_)
      refine wp_region_lit ?_
      refine s_val hF (x_addn (i + 1) (by omega) (by omega) rfl rfl) (by decide) fun a hF => ?_
      refine s_val hF (x_move rfl) (by decide) fun a hF => ?_
      refine s_end (hK' _ _ (by omega) ⟨_, by rw [htk, List.map_append, List.sum_append, ← hm]; simp [hls], by omega, hB, hBA, hF.sub _ rfl⟩)
    · obtain ⟨n9, m9_, rfl⟩ := hry.var_of (show y.k = 1 from hq.1)
      have hn9 : y.n = n9 := hry.2.1
      have hn64 := hry.2.2.1
      unfold in64 at hn64
      have hls : occL (.var n9 m9_, dd) = 0 := by simp only [occL]; rw [if_neg (by omega)]
      refine wp_rs fun K11 hK11 => ?_
      refine s_val hF (x_fa0 fa90_0 rfl) (by decide) fun a hF => ?_
      refine s_val hF (x_fa0 fa27_0 rfl) (by decide) fun a hF => ?_
      refine s_val hF (x_load rfl (m_load flat3 (m7.cell (j := 0) rfl))) (by decide) fun a hF => ?_
      refine s_val hF (x_eql (b := true) (decide_eq_true (show y.k = 1 from hq.1)) rfl rfl) (by decide) fun a hF => ?_
      refine s_val hF (x_move rfl) (by decide) fun a hF => ?_
      refine s_grd 19 hF rfl rfl rfl ?_
      refine s_val hF (x_fa0 fa90_0 rfl) (by decide) fun a hF => ?_
      refine s_grd 19 hF rfl rfl rfl ?_
      refine s_val hF (x_fa0 fa27_1 rfl) (by decide) fun a hF => ?_
      refine s_grd 19 hF rfl rfl rfl ?_
      refine s_val hF (x_load rfl (m_load flat3 (m7.cell (j := 1) rfl))) (by decide) fun a hF => ?_
      refine s_grd 19 hF rfl rfl rfl ?_
      refine s_val hF (x_move rfl) (by decide) fun a hF => ?_
      refine s_grd 19 hF rfl rfl rfl ?_
      refine s_val hF (x_fa0 fa90_1 rfl) (by decide) fun a hF => ?_
      refine s_grd 19 hF rfl rfl rfl ?_
      refine s_val hF (x_load rfl (m_load flat3 (m7.cell (j := 8) rfl))) (by decide) fun a hF => ?_
      refine s_grd 19 hF rfl rfl rfl ?_
      refine s_val hF (x_add (p := 0) (q := dd) (by omega) (by omega) rfl rfl) (by decide) fun a hF => ?_
      refine s_grd 19 hF rfl rfl rfl ?_
      refine s_val hF (x_eql (p := y.n) (q := 0 + dd) (b := false) (decide_eq_false (by omega)) rfl rfl) (by decide) fun a hF => ?_
      refine s_val hF (x_pick (b := true) rfl rfl) (by decide) fun a hF => ?_
      refine s_end (hK11 _ _ ?_)
      refine wp_if hF rfl ?_
      refine wp_skip (hK7 _ _ ?_)
      refine wp_region_lit ?_
      refine s_val hF (x_addn (i + 1) (by omega) (by omega) rfl rfl) (by decide) fun a hF => ?_
      refine s_val hF (x_move rfl) (by decide) fun a hF => ?_
      refine s_end (hK' _ _ (by omega) ⟨_, by rw [htk, List.map_append, List.sum_append, ← hm]; simp [hls], by omega, hB, hBA, hF.sub _ rfl⟩)
    · have hls : occL (lc9, dd) = 0 := by cases lc9 <;> first | (exfalso; exact hq hry.1) | rfl
      refine wp_rs fun K12 hK12 => ?_
      refine s_val hF (x_fa0 fa90_0 rfl) (by decide) fun a hF => ?_
      refine s_val hF (x_fa0 fa27_0 rfl) (by decide) fun a hF => ?_
      refine s_val hF (x_load rfl (m_load flat3 (m7.cell (j := 0) rfl))) (by decide) fun a hF => ?_
      refine s_val hF (x_eql (b := false) (decide_eq_false (show ¬ y.k = 1 from hq)) rfl rfl) (by decide) fun a hF => ?_
      refine s_val hF (x_move rfl) (by decide) fun a hF => ?_
      refine s_grdn 19 hF rfl rfl (by decide) fun a hF => ?_
      refine s_grdn 19 hF rfl rfl (by decide) fun a hF => ?_
      refine s_grdn 19 hF rfl rfl (by decide) fun a hF => ?_
      refine s_grdn 19 hF rfl rfl (by decide) fun a hF => ?_
      refine s_grdn 19 hF rfl rfl (by decide) fun a hF => ?_
      refine s_grdn 19 hF rfl rfl (by decide) fun a hF => ?_
      refine s_grdn 19 hF rfl rfl (by decide) fun a hF => ?_
      refine s_grdn 19 hF rfl rfl (by decide) fun a hF => ?_
      refine s_val hF (x_pick (b := false) rfl rfl) (by decide) fun a hF => ?_
      refine s_end (hK12 _ _ ?_)
      refine wp_if hF rfl ?_
      refine wp_skip (hK7 _ _ ?_)
      refine wp_region_lit ?_
      refine s_val hF (x_addn (i + 1) (by omega) (by omega) rfl rfl) (by decide) fun a hF => ?_
      refine s_val hF (x_move rfl) (by decide) fun a hF => ?_
      refine s_end (hK' _ _ (by omega) ⟨_, by rw [htk, List.map_append, List.sum_append, ← hm]; simp [hls], by omega, hB, hBA, hF.sub _ rfl⟩)
  · obtain rfl : i = es9.length := by omega
    rw [List.take_of_length_le (by omega), leaves_occ c 0] at hm
    refine wp_exit (hK3 _ _ ?_)
    refine wp_rs fun K13 hK13 => ?_
    refine s_val hF (x_move rfl) (by decide) fun a hF => ?_
    refine s_val hF (x_assign rfl) (by decide) fun a hF => ?_
    refine s_end (hK13 _ _ ?_)
    refine wp_ret (res_slot hF rfl rfl ⟨by rw [← hm], hB⟩)
end Go.Proofs.Ytaclncmkdpjnlaa

namespace Go.Proofs.Ytaclncmkdpjnlaa
open Go.RowKit Go.Shelf
set_option linter.unusedVariables false
set_option linter.unusedSimpArgs false

/-- What formOf tells. -/
def FF (w0 : World) (x : C3) (l : Lv) (w' : World) (c : Int) (vk : Value) (ks : List Int) : Prop := Rd w' vk 1 ks.length (ints ks) ∧ (¬ sndL l → c = 0 ∧ ks = []) ∧ ∀ s, RS w0 s x → s.good → c = nfC s ∧ ks = nfK s

/-- Two come to one form. -/
def eqF (a b : SL) : Prop := nfC a = nfC b ∧ nfK a = nfK b
instance (a b : SL) : Decidable (eqF a b) := inferInstanceAs (Decidable (_ ∧ _))
/-- What Equal and Leq tell. -/
def TB (w0 : World) (x y : C3) (la lb : Lv) (P : SL → SL → Prop) [∀ s t, Decidable (P s t)] (b : Bool) : Prop := (¬ (sndL la ∧ sndL lb) → b = false) ∧ ∀ s t, RS w0 s x → RS w0 t y → s.good → t.good → b = decide (P s t)
def leS (s t : SL) : Prop := eqF (.mx s t) t
instance (a b : SL) : Decidable (leS a b) := inferInstanceAs (Decidable (eqF _ _))

end Go.Proofs.Ytaclncmkdpjnlaa

namespace Go.Proofs.Ytaclncmkdpjnlaa
open Go.RowKit Go.Shelf
set_option linter.unusedVariables false
set_option linter.unusedSimpArgs false

def eqO : Option SL → Option SL → Prop
  | some s, some t => eqF s t
  | _, _ => False
def eqOs (os ps : List (Option SL)) : Prop := os.length = ps.length ∧ ∀ (i : Nat) o p, os[i]? = some o → ps[i]? = some p → eqO o p
def sameP : PT → PT → Prop
  | .var n, .var m => n = m
  | .sort o, .sort p => eqO o p
  | .cst s os, .cst t ps => s = t ∧ eqOs os ps
  | .odd k, .odd j => k = j
  | .two k a b, .two j c d => k = j ∧ sameP a c ∧ sameP b d
  | .lt a b c, .lt d e f => sameP a d ∧ sameP b e ∧ sameP c f
  | _, _ => False
def PT.fit : PT → Prop
  | .cst _ os => os.length ≤ 9223372036854775807
  | .two _ a b => a.fit ∧ b.fit
  | .lt a b c => a.fit ∧ b.fit ∧ c.fit
  | _ => True
end Go.Proofs.Ytaclncmkdpjnlaa

namespace Go.Proofs.Ytaclncmkdpjnlaa
open Go.RowKit Go.Shelf
set_option linter.unusedVariables false
set_option linter.unusedSimpArgs false
section
variable {P : Program} {n : Nat} {l : List (Nat × Value)} {w : World}
theorem x_remu {t t' : TypeId} {x y : Operand} {k : IntKind} {p q : Int} (r : Int) (h0 : q ≠ 0) (h1 : p.tmod q = r) (hx : ov l x = some (.int k p)) (hy : ov l y = some (.int k q)) : Runs P n l w (.binOp .rem t x y t') (.int k r) :=
  x_bin hx hy (b_int fun W => by simp [binOp, Op.intDiv, h0, h1])
end
theorem u64_rem (z q : Int) (hq : 0 < q) (hq2 : q ≤ 1000) : 0 ≤ (z % 18446744073709551616).tmod q ∧ (z % 18446744073709551616).tmod q < q := by
  have h1 : 0 ≤ z % 18446744073709551616 := Int.emod_nonneg _ (by decide)
  rw [Int.tmod_eq_emod_of_nonneg h1]
  exact ⟨Int.emod_nonneg _ (by omega), Int.emod_lt_of_pos _ hq⟩

end Go.Proofs.Ytaclncmkdpjnlaa

namespace Go.Proofs.Ytaclncmkdpjnlaa
open Go.RowKit Go.Shelf
set_option linter.unusedVariables false
set_option linter.unusedSimpArgs false

theorem occ_le : ∀ (p : PT) (d : Int), p.occ d ≤ p.size
  | .var n, d => by simp only [PT.occ, PT.size]; split <;> omega
  | .two k p q, d => by have := occ_le p d; have := occ_le q (d + if k = 3 ∨ k = 4 then 1 else 0); simp only [PT.occ, PT.size]; omega
  | .lt p q r, d => by have := occ_le p d; have := occ_le q d; have := occ_le r (d + 1); simp only [PT.occ, PT.size]; omega
  | .sort o, d => by simp [PT.occ]
  | .cst s os, d => by simp [PT.occ]
  | .odd k, d => by simp [PT.occ]
end Go.Proofs.Ytaclncmkdpjnlaa

namespace Go.Proofs.Ytaclncmkdpjnlaa
open Go.RowKit Go.Shelf
set_option linter.unusedVariables false
set_option linter.unusedSimpArgs false

noncomputable def allW (cs : List CT) : Bool := cs.all fun c => decide ((c.mayT 6 1 0).1 = 0)
end Go.Proofs.Ytaclncmkdpjnlaa

namespace Go.Proofs.Ytaclncmkdpjnlaa
open Go.RowKit Go.Shelf
set_option linter.unusedVariables false
set_option linter.unusedSimpArgs false

/-- No universe and no constant. -/
def PT.plain : PT → Prop
  | .var _ => True
  | .two _ p q => p.plain ∧ q.plain
  | .lt p q r => p.plain ∧ q.plain ∧ r.plain
  | .odd _ => True
  | _ => False
theorem near_cases {c d : CT} (h : c.ess = d.ess) (hp : c.ess.plain) : (∃ k m m2, c = .odd k m ∧ d = .odd k m2) ∨ (∃ n m m2, c = .var n m ∧ d = .var n m2) ∨ (∃ k p q m p2 q2 m2, c = .two k p q m ∧ d = .two k p2 q2 m2 ∧ p.ess = p2.ess ∧ q.ess = q2.ess ∧ p.ess.plain ∧ q.ess.plain) ∨ (∃ p q r m p2 q2 r2 m2, c = .lt p q r m ∧ d = .lt p2 q2 r2 m2 ∧ p.ess = p2.ess ∧ q.ess = q2.ess ∧ r.ess = r2.ess ∧ p.ess.plain ∧ q.ess.plain ∧ r.ess.plain) := by
  cases c with
  | odd k m => cases d <;> simp [CT.ess] at h; subst h; exact .inl ⟨_, _, _, rfl, rfl⟩
  | var n m => cases d <;> simp [CT.ess] at h; subst h; exact .inr (.inl ⟨_, _, _, rfl, rfl⟩)
  | two k p q m =>
    cases d <;> simp [CT.ess] at h
    obtain ⟨rfl, h1, h2⟩ := h
    exact .inr (.inr (.inl ⟨_, _, _, _, _, _, _, rfl, rfl, h1, h2, hp.1, hp.2⟩))
  | lt p q r m =>
    cases d <;> simp [CT.ess] at h
    obtain ⟨h1, h2, h3⟩ := h
    exact .inr (.inr (.inr ⟨_, _, _, _, _, _, _, _, rfl, rfl, h1, h2, h3, hp.1, hp.2.1, hp.2.2⟩))
  | sort l m => exact hp.elim
  | cst s ls m => exact hp.elim
/-- What near goes by. -/
structure Nr (c d : CT) (k : Int) : Prop where
  kc : c.kd = k
  kd : d.kd = k
  ar : arT k = c.kids.length
  ln : c.kids.length = d.kids.length
  lc : ¬ (arT c.kd < 0 ∨ (c.len : Int) < arT c.kd)
  ld : ¬ (arT d.kd < 0 ∨ (d.len : Int) < arT d.kd)
  kids : ∀ (i : Nat) p q, c.kids[i]? = some p → d.kids[i]? = some q → p.ess = q.ess ∧ p.ess.plain
theorem near_two {W : World} {A : Nat → Prop} {x : C8} {c d : CT} (hx : RC W A c x) (h : (∃ k p q m p2 q2 m2, c = .two k p q m ∧ d = .two k p2 q2 m2 ∧ p.ess = p2.ess ∧ q.ess = q2.ess ∧ p.ess.plain ∧ q.ess.plain) ∨ (∃ p q r m p2 q2 r2 m2, c = .lt p q r m ∧ d = .lt p2 q2 r2 m2 ∧ p.ess = p2.ess ∧ q.ess = q2.ess ∧ r.ess = r2.ess ∧ p.ess.plain ∧ q.ess.plain ∧ r.ess.plain)) : (c.kd ≠ 1 ∧ c.kd ≠ 2 ∧ c.kd ≠ 7) ∧ Nr c d c.kd := by
  rcases h with ⟨k, p, q, m, p2, q2, m2, rfl, rfl, h1, h2, h3, h4⟩ | ⟨p, q, r, m, p2, q2, r2, m2, rfl, rfl, h1, h2, h3, h4, h5, h6⟩
  · have hk := hx.2.1
    have ha : arT k = 2 := by rcases hk with rfl | rfl | rfl <;> rfl
    refine ⟨by simp only [CT.kd]; omega, rfl, rfl, by simp only [CT.kd, CT.kids, ha]; rfl, rfl, by simp only [CT.kd, CT.len, ha]; omega, by simp only [CT.kd, CT.len, ha]; omega, fun i a b e1 e2 => ?_⟩
    rcases i with _ | _ | i
    · simp [CT.kids] at e1 e2; subst e1 e2; exact ⟨h1, h3⟩
    · simp [CT.kids] at e1 e2; subst e1 e2; exact ⟨h2, h4⟩
    · simp [CT.kids] at e1
  · have ha : arT 5 = 3 := rfl
    refine ⟨by simp [CT.kd], rfl, rfl, by simp only [CT.kd, CT.kids, ha]; rfl, rfl, by simp only [CT.kd, CT.len, ha]; omega, by simp only [CT.kd, CT.len, ha]; omega, fun i a b e1 e2 => ?_⟩
    rcases i with _ | _ | _ | i
    · simp [CT.kids] at e1 e2; subst e1 e2; exact ⟨h1, h4⟩
    · simp [CT.kids] at e1 e2; subst e1 e2; exact ⟨h2, h5⟩
    · simp [CT.kids] at e1 e2; subst e1 e2; exact ⟨h3, h6⟩
    · simp [CT.kids] at e1
section
variable {P : Program} {n : Nat} {l : List (Nat × Value)} {w : World}
theorem x_neqBB {t t' : TypeId} {x y : Operand} {p : Bool} (ht : P.underlying t = some .bool) (hx : ov l x = some (.bool p)) (hy : ov l y = some (.bool p)) : Runs P n l w (.binOp .neq t x y t') (.bool false) :=
  x_bin hx hy fun W => ⟨by simp [eqGuard], by
    have h := run_equalIn_bool' (P := P) W 9999 t p p ht
    simp only [binOp, Op.equal, Op.maxDepth]
    simp [h]⟩
end

set_option maxRecDepth 100000 in
set_option maxHeartbeats 1600000 in
theorem near61 : ∀ (N : Nat) (c d : CT) (x y : C8) (w0 : World), c.size < N → RC w0 (fun k => k < w0.heap.size) c x → RC w0 (fun k => k < w0.heap.size) d y → c.ess = d.ess → c.ess.plain → Calls Try.prog 50 #[tv x, tv y] w0 fun e w' => e = .returned (.bool true) ∧ Below w0.heap.size w0 w' := by
  intro N
  induction N with
  | zero => intro c d x y w0 h; omega
  | succ N ih =>
  intro c d x y w0 hN hx hy he hp
  have hcs := near_cases he hp
  obtain ⟨av, nv, cv, hts, hle9, hlen9, hcap, hkid⟩ := hx.kids
  obtain ⟨au, nu, cu, htu, hleu, hlenu, hcapu, hkiu⟩ := hy.kids
  obtain ⟨xk, xn, xs, xl, xls, xts⟩ := x
  obtain ⟨yk, yn, ys, yl, yls, yts⟩ := y
  simp only at hts htu
  subst hts htu
  have hkd : xk = c.kd := hx.kd
  have hkd2 : yk = d.kd := hy.kd
  have hB := Below.refl w0.heap.size w0
  have sB := hB.size
  refine calls_fs 91 [(0, tv ⟨xk, xn, xs, xl, xls, .slice av nv cv⟩), (1, tv ⟨yk, yn, ys, yl, yls, .slice au nu cu⟩)] Try.func50 rfl rfl rfl rfl rfl fun a hF => ?_
  refine wp_rs fun K1 hK1 => ?_
  refine s_box ([.int .i64 xk, .int .i64 xn, .string xs, .int .i64 xl.1, .int .i64 xl.2.1, xl.2.2, xls, .slice av nv cv]) hF (by decide) rfl rfl fun w2 b2 a eb2 m2 B3 zb2 hF => ?_
  have sB3 := B3.size
  have hB := hB.trans (B3.mono hB.size)
  refine s_box ([.int .i64 yk, .int .i64 yn, .string ys, .int .i64 yl.1, .int .i64 yl.2.1, yl.2.2, yls, .slice au nu cu]) hF (by decide) rfl rfl fun w4 b3 a eb3 m3 B5 zb3 hF => ?_
  have sB5 := B5.size
  have hB := hB.trans (B5.mono hB.size)
  have m2 := m2.old B5
  refine s_val hF (x_assign rfl) (by decide) fun a hF => ?_
  refine s_end (hK1 _ _ ?_)
  refine wp_seq_k fun K2 hK2 => ?_
  rcases hcs with ⟨k, m, mb, rfl, rfl⟩ | ⟨n, m, mb, rfl, rfl⟩ | hcs
  · have hlc : arT (CT.odd k m).kd < 0 ∨ ((CT.odd k m).len : Int) < arT (CT.odd k m).kd := hx.2.1
    have hld : arT (CT.odd k mb).kd < 0 ∨ ((CT.odd k mb).len : Int) < arT (CT.odd k mb).kd := hy.2.1
    have hk1 : xk = k := hx.1
    have hk2 : yk = k := hy.1
    refine dk2_seq (w4.heap.size) (w4.heap.size) (ops := regOps Try.f50 1) (N := 12) (by kernel_rfl) wide_orders (by kernel_rfl) fun w6 hw6 B7 hS K4 hK4 => ?_
    have zw6 : w6.heap.size = w4.heap.size := by rw [hw6]
    have sB7 := B7.size
    have hB := hB.trans (B7.mono hB.size)
    have m2 := m2.old B7
    have m3 := m3.old B7
    have m2_d := m2
    have m3_d := m3
    have hB_d := hB
    refine d_val 0 7 (op := (Go.Op.fieldAddr 27 (Go.Operand.tmp 2) 0)) hF hS (by kernel_rfl) (fun W hW => x_fa0 fa27_0 rfl) (by kernel_rfl) (by decide) fun a hF => ?_
    refine d_val 1 8 (op := (Go.Op.load 3 (Go.Operand.tmp 7))) hF hS (by kernel_rfl) (fun W hW => x_load rfl (m_load flat3 ((m2_d.k2 hW (by omega)).cell (j := 0) rfl))) (by kernel_rfl) (by decide) fun a hF => ?_
    refine d_val 2 9 (op := (Go.Op.fieldAddr 27 (Go.Operand.tmp 3) 0)) hF hS (by kernel_rfl) (fun W hW => x_fa0 fa27_0 rfl) (by kernel_rfl) (by decide) fun a hF => ?_
    refine d_val 3 10 (op := (Go.Op.load 3 (Go.Operand.tmp 9))) hF hS (by kernel_rfl) (fun W hW => x_load rfl (m_load flat3 ((m3_d.k2 hW (by omega)).cell (j := 0) rfl))) (by kernel_rfl) (by decide) fun a hF => ?_
    refine d_val 4 11 (op := (Go.Op.binOp Go.BinOp.neq 3 (Go.Operand.tmp 8) (Go.Operand.tmp 10) 3)) hF hS (by kernel_rfl) (fun W hW => x_neq (b := false) (decide_eq_false (by omega)) rfl rfl) (by kernel_rfl) (by decide) fun a hF => ?_
    refine d_val 5 12 (op := (Go.Op.move (Go.Operand.tmp 11))) hF hS (by kernel_rfl) (fun W hW => x_move rfl) (by kernel_rfl) (by decide) fun a hF => ?_
    refine d_valg 6 13 12 (j := 5) (want := false) (op := (Go.Op.load 27 (Go.Operand.tmp 2))) hF hS (by kernel_rfl) (by kernel_rfl) rfl (fun W hW => x_ldW wide27 (m2_d.k2 hW (by omega)) rfl rfl) (by kernel_rfl) (by decide) fun a hF => ?_
    refine d_valg 8 15 12 (j := 5) (want := false) (op := (Go.Op.load 27 (Go.Operand.tmp 3))) hF hS (by kernel_rfl) (by kernel_rfl) rfl (fun W hW => x_ldW wide27 (m3_d.k2 hW (by omega)) rfl rfl) (by kernel_rfl) (by decide) fun a hF => ?_
    refine d_oneg 7 12 (some 14) (Go.Op.call (Go.Call.mk (Go.Callee.value (Go.Operand.func 59)) #[(Go.Operand.tmp 13)] #[27])) (j := 5) (want := false) hF (by kernel_rfl) (by kernel_rfl) (by kernel_rfl) rfl fun ty pos af => ?_
    refine s_callB [_] hF (enters_of Try.func59 (by kernel_rfl) rfl) rfl (by decide) ((leaf70 (.odd k m) _ _ w0 w6 hx).mono fun e w' h => ⟨by rw [h.1, decide_eq_true hlc], h.2⟩) fun w8 a B9 hF => ?_
    have sB9 := B9.size
    have hB := hB.trans (B9.mono hB.size)
    have m2 := m2.old B9
    have m3 := m3.old B9
    have hS := hS.below B9
    refine s_end ⟨hS, ?_⟩
    refine d_oneg 9 12 (some 16) (Go.Op.call (Go.Call.mk (Go.Callee.value (Go.Operand.func 59)) #[(Go.Operand.tmp 15)] #[27])) (j := 5) (want := false) hF (by kernel_rfl) (by kernel_rfl) (by kernel_rfl) rfl fun ty pos af => ?_
    refine s_callB [_] hF (enters_of Try.func59 (by kernel_rfl) rfl) rfl (by decide) ((leaf70 (.odd k mb) _ _ w0 w8 hy).mono fun e w' h => ⟨by rw [h.1, decide_eq_true hld], h.2⟩) fun w10 a B11 hF => ?_
    have sB11 := B11.size
    have hB := hB.trans (B11.mono hB.size)
    have m2 := m2.old B11
    have m3 := m3.old B11
    have hS := hS.below B11
    refine s_end ⟨hS, ?_⟩
    refine d_valg 10 17 12 (j := 5) (want := false) (op := (Go.Op.binOp Go.BinOp.neq 4 (Go.Operand.tmp 14) (Go.Operand.tmp 16) 4)) hF hS (by kernel_rfl) (by kernel_rfl) rfl (fun W hW => x_neqBB Try.underlying4 rfl rfl) (by kernel_rfl) (by decide) fun a hF => ?_
    refine d_val 11 18 (op := (Go.Op.pick (Go.Operand.tmp 12) (Go.Operand.const (Go.Value.bool true)) (Go.Operand.tmp 17))) hF hS (by kernel_rfl) (fun W hW => x_pick (b := false) rfl rfl) (by kernel_rfl) (by decide) fun a hF => ?_
    refine d_end (by kernel_rfl) (hK4 _ _ ?_)
    refine wp_if hF rfl ?_
    refine wp_skip (hK2 _ _ ?_)
    refine wp_seq_k fun K5 hK5 => ?_
    refine wp_rs fun K6 hK6 => ?_
    refine s_val hF (x_ldW wide27 m2 rfl rfl) (by decide) fun a hF => ?_
    refine s_callB [_] hF (enters_of Try.func59 (by kernel_rfl) rfl) rfl (by decide) ((leaf70 (.odd k m) _ _ w0 w10 hx).mono fun e w' h => ⟨by rw [h.1, decide_eq_true hlc], h.2⟩) fun w12 a B13 hF => ?_
    have sB13 := B13.size
    have hB := hB.trans (B13.mono hB.size)
    have m2 := m2.old B13
    have m3 := m3.old B13
    refine s_end (hK6 _ _ ?_)
    refine wp_if hF rfl ?_
    refine wp_rs fun K7 hK7 => ?_
    refine s_val hF (x_assign rfl) (by decide) fun a hF => ?_
    refine s_end (hK7 _ _ ?_)
    refine wp_ret (then_ret (res_slot hF rfl rfl ⟨rfl, hB⟩))
  · have hlc : ¬ (arT (CT.var n m).kd < 0 ∨ ((CT.var n m).len : Int) < arT (CT.var n m).kd) := by simp only [CT.kd, CT.len, show arT 1 = 0 from rfl]; omega
    have hld : ¬ (arT (CT.var n mb).kd < 0 ∨ ((CT.var n mb).len : Int) < arT (CT.var n mb).kd) := by simp only [CT.kd, CT.len, show arT 1 = 0 from rfl]; omega
    have hxn : xn = n := hx.2.1
    have hyn : yn = n := hy.2.1
    have hk1 : xk = 1 := hx.1
    have hk2 : yk = 1 := hy.1
    refine dk2_seq (w4.heap.size) (w4.heap.size) (ops := regOps Try.f50 1) (N := 12) (by kernel_rfl) wide_orders (by kernel_rfl) fun w14 hw14 B15 hS K8 hK8 => ?_
    have zw14 : w14.heap.size = w4.heap.size := by rw [hw14]
    have sB15 := B15.size
    have hB := hB.trans (B15.mono hB.size)
    have m2 := m2.old B15
    have m3 := m3.old B15
    have m2_d := m2
    have m3_d := m3
    have hB_d := hB
    refine d_val 0 7 (op := (Go.Op.fieldAddr 27 (Go.Operand.tmp 2) 0)) hF hS (by kernel_rfl) (fun W hW => x_fa0 fa27_0 rfl) (by kernel_rfl) (by decide) fun a hF => ?_
    refine d_val 1 8 (op := (Go.Op.load 3 (Go.Operand.tmp 7))) hF hS (by kernel_rfl) (fun W hW => x_load rfl (m_load flat3 ((m2_d.k2 hW (by omega)).cell (j := 0) rfl))) (by kernel_rfl) (by decide) fun a hF => ?_
    refine d_val 2 9 (op := (Go.Op.fieldAddr 27 (Go.Operand.tmp 3) 0)) hF hS (by kernel_rfl) (fun W hW => x_fa0 fa27_0 rfl) (by kernel_rfl) (by decide) fun a hF => ?_
    refine d_val 3 10 (op := (Go.Op.load 3 (Go.Operand.tmp 9))) hF hS (by kernel_rfl) (fun W hW => x_load rfl (m_load flat3 ((m3_d.k2 hW (by omega)).cell (j := 0) rfl))) (by kernel_rfl) (by decide) fun a hF => ?_
    refine d_val 4 11 (op := (Go.Op.binOp Go.BinOp.neq 3 (Go.Operand.tmp 8) (Go.Operand.tmp 10) 3)) hF hS (by kernel_rfl) (fun W hW => x_neq (b := false) (decide_eq_false (by omega)) rfl rfl) (by kernel_rfl) (by decide) fun a hF => ?_
    refine d_val 5 12 (op := (Go.Op.move (Go.Operand.tmp 11))) hF hS (by kernel_rfl) (fun W hW => x_move rfl) (by kernel_rfl) (by decide) fun a hF => ?_
    refine d_valg 6 13 12 (j := 5) (want := false) (op := (Go.Op.load 27 (Go.Operand.tmp 2))) hF hS (by kernel_rfl) (by kernel_rfl) rfl (fun W hW => x_ldW wide27 (m2_d.k2 hW (by omega)) rfl rfl) (by kernel_rfl) (by decide) fun a hF => ?_
    refine d_valg 8 15 12 (j := 5) (want := false) (op := (Go.Op.load 27 (Go.Operand.tmp 3))) hF hS (by kernel_rfl) (by kernel_rfl) rfl (fun W hW => x_ldW wide27 (m3_d.k2 hW (by omega)) rfl rfl) (by kernel_rfl) (by decide) fun a hF => ?_
    refine d_oneg 7 12 (some 14) (Go.Op.call (Go.Call.mk (Go.Callee.value (Go.Operand.func 59)) #[(Go.Operand.tmp 13)] #[27])) (j := 5) (want := false) hF (by kernel_rfl) (by kernel_rfl) (by kernel_rfl) rfl fun ty pos af => ?_
    refine s_callB [_] hF (enters_of Try.func59 (by kernel_rfl) rfl) rfl (by decide) ((leaf70 (.var n m) _ _ w0 w14 hx).mono fun e w' h => ⟨by rw [h.1, decide_eq_false hlc], h.2⟩) fun w16 a B17 hF => ?_
    have sB17 := B17.size
    have hB := hB.trans (B17.mono hB.size)
    have m2 := m2.old B17
    have m3 := m3.old B17
    have hS := hS.below B17
    refine s_end ⟨hS, ?_⟩
    refine d_oneg 9 12 (some 16) (Go.Op.call (Go.Call.mk (Go.Callee.value (Go.Operand.func 59)) #[(Go.Operand.tmp 15)] #[27])) (j := 5) (want := false) hF (by kernel_rfl) (by kernel_rfl) (by kernel_rfl) rfl fun ty pos af => ?_
    refine s_callB [_] hF (enters_of Try.func59 (by kernel_rfl) rfl) rfl (by decide) ((leaf70 (.var n mb) _ _ w0 w16 hy).mono fun e w' h => ⟨by rw [h.1, decide_eq_false hld], h.2⟩) fun w18 a B19 hF => ?_
    have sB19 := B19.size
    have hB := hB.trans (B19.mono hB.size)
    have m2 := m2.old B19
    have m3 := m3.old B19
    have hS := hS.below B19
    refine s_end ⟨hS, ?_⟩
    refine d_valg 10 17 12 (j := 5) (want := false) (op := (Go.Op.binOp Go.BinOp.neq 4 (Go.Operand.tmp 14) (Go.Operand.tmp 16) 4)) hF hS (by kernel_rfl) (by kernel_rfl) rfl (fun W hW => x_neqBB Try.underlying4 rfl rfl) (by kernel_rfl) (by decide) fun a hF => ?_
    refine d_val 11 18 (op := (Go.Op.pick (Go.Operand.tmp 12) (Go.Operand.const (Go.Value.bool true)) (Go.Operand.tmp 17))) hF hS (by kernel_rfl) (fun W hW => x_pick (b := false) rfl rfl) (by kernel_rfl) (by decide) fun a hF => ?_
    refine d_end (by kernel_rfl) (hK8 _ _ ?_)
    refine wp_if hF rfl ?_
    refine wp_skip (hK2 _ _ ?_)
    refine wp_seq_k fun K9 hK9 => ?_
    refine wp_rs fun K10 hK10 => ?_
    refine s_val hF (x_ldW wide27 m2 rfl rfl) (by decide) fun a hF => ?_
    refine s_callB [_] hF (enters_of Try.func59 (by kernel_rfl) rfl) rfl (by decide) ((leaf70 (.var n m) _ _ w0 w18 hx).mono fun e w' h => ⟨by rw [h.1, decide_eq_false hlc], h.2⟩) fun w20 a B21 hF => ?_
    have sB21 := B21.size
    have hB := hB.trans (B21.mono hB.size)
    have m2 := m2.old B21
    have m3 := m3.old B21
    refine s_end (hK10 _ _ ?_)
    refine wp_if hF rfl ?_
    refine wp_skip (hK9 _ _ ?_)
    refine wp_seq_k fun K11 hK11 => ?_
    refine wp_rs fun K12 hK12 => ?_
    refine s_val hF (x_fa0 fa27_0 rfl) (by decide) fun a hF => ?_
    refine s_val hF (x_load rfl (m_load flat3 (m2.cell (j := 0) rfl))) (by decide) fun a hF => ?_
    refine s_end (hK12 _ _ ?_)
    refine wp_block ?_
    refine wp_rs fun K13 hK13 => ?_
    refine s_val hF (x_eql (b := true) (decide_eq_true (by omega)) rfl rfl) (by decide) fun a hF => ?_
    refine s_val hF (x_assign rfl) (by decide) fun a hF => ?_
    refine s_end (hK13 _ _ ?_)
    refine wp_if hF rfl ?_
    refine wp_rs fun K14 hK14 => ?_
    refine s_val hF (x_fa0 fa27_1 rfl) (by decide) fun a hF => ?_
    refine s_val hF (x_load rfl (m_load flat3 (m2.cell (j := 1) rfl))) (by decide) fun a hF => ?_
    refine s_val hF (x_fa0 fa27_1 rfl) (by decide) fun a hF => ?_
    refine s_val hF (x_load rfl (m_load flat3 (m3.cell (j := 1) rfl))) (by decide) fun a hF => ?_
    refine s_val hF (x_eql (b := true) (decide_eq_true (by omega)) rfl rfl) (by decide) fun a hF => ?_
    refine s_val hF (x_assign rfl) (by decide) fun a hF => ?_
    refine s_end (hK14 _ _ ?_)
    refine wp_ret (inb_ret (then_ret (res_slot hF rfl rfl ⟨rfl, hB⟩)))
  · obtain ⟨hk7, hnr⟩ := near_two hx hcs
    have hlc := hnr.lc
    have hld := hnr.ld
    have hk1 := hnr.kd
    have har := hnr.ar
    have hln := hnr.ln
    have hk3 := c.kids_le
    refine dk2_seq (w4.heap.size) (w4.heap.size) (ops := regOps Try.f50 1) (N := 12) (by kernel_rfl) wide_orders (by kernel_rfl) fun w22 hw22 B23 hS K15 hK15 => ?_
    have zw22 : w22.heap.size = w4.heap.size := by rw [hw22]
    have sB23 := B23.size
    have hB := hB.trans (B23.mono hB.size)
    have m2 := m2.old B23
    have m3 := m3.old B23
    have m2_d := m2
    have m3_d := m3
    have hB_d := hB
    refine d_val 0 7 (op := (Go.Op.fieldAddr 27 (Go.Operand.tmp 2) 0)) hF hS (by kernel_rfl) (fun W hW => x_fa0 fa27_0 rfl) (by kernel_rfl) (by decide) fun a hF => ?_
    refine d_val 1 8 (op := (Go.Op.load 3 (Go.Operand.tmp 7))) hF hS (by kernel_rfl) (fun W hW => x_load rfl (m_load flat3 ((m2_d.k2 hW (by omega)).cell (j := 0) rfl))) (by kernel_rfl) (by decide) fun a hF => ?_
    refine d_val 2 9 (op := (Go.Op.fieldAddr 27 (Go.Operand.tmp 3) 0)) hF hS (by kernel_rfl) (fun W hW => x_fa0 fa27_0 rfl) (by kernel_rfl) (by decide) fun a hF => ?_
    refine d_val 3 10 (op := (Go.Op.load 3 (Go.Operand.tmp 9))) hF hS (by kernel_rfl) (fun W hW => x_load rfl (m_load flat3 ((m3_d.k2 hW (by omega)).cell (j := 0) rfl))) (by kernel_rfl) (by decide) fun a hF => ?_
    refine d_val 4 11 (op := (Go.Op.binOp Go.BinOp.neq 3 (Go.Operand.tmp 8) (Go.Operand.tmp 10) 3)) hF hS (by kernel_rfl) (fun W hW => x_neq (b := false) (decide_eq_false (by omega)) rfl rfl) (by kernel_rfl) (by decide) fun a hF => ?_
    refine d_val 5 12 (op := (Go.Op.move (Go.Operand.tmp 11))) hF hS (by kernel_rfl) (fun W hW => x_move rfl) (by kernel_rfl) (by decide) fun a hF => ?_
    refine d_valg 6 13 12 (j := 5) (want := false) (op := (Go.Op.load 27 (Go.Operand.tmp 2))) hF hS (by kernel_rfl) (by kernel_rfl) rfl (fun W hW => x_ldW wide27 (m2_d.k2 hW (by omega)) rfl rfl) (by kernel_rfl) (by decide) fun a hF => ?_
    refine d_valg 8 15 12 (j := 5) (want := false) (op := (Go.Op.load 27 (Go.Operand.tmp 3))) hF hS (by kernel_rfl) (by kernel_rfl) rfl (fun W hW => x_ldW wide27 (m3_d.k2 hW (by omega)) rfl rfl) (by kernel_rfl) (by decide) fun a hF => ?_
    refine d_oneg 7 12 (some 14) (Go.Op.call (Go.Call.mk (Go.Callee.value (Go.Operand.func 59)) #[(Go.Operand.tmp 13)] #[27])) (j := 5) (want := false) hF (by kernel_rfl) (by kernel_rfl) (by kernel_rfl) rfl fun ty pos af => ?_
    refine s_callB [_] hF (enters_of Try.func59 (by kernel_rfl) rfl) rfl (by decide) ((leaf70 c _ _ w0 w22 hx).mono fun e w' h => ⟨by rw [h.1, decide_eq_false hlc], h.2⟩) fun w24 a B25 hF => ?_
    have sB25 := B25.size
    have hB := hB.trans (B25.mono hB.size)
    have m2 := m2.old B25
    have m3 := m3.old B25
    have hS := hS.below B25
    refine s_end ⟨hS, ?_⟩
    refine d_oneg 9 12 (some 16) (Go.Op.call (Go.Call.mk (Go.Callee.value (Go.Operand.func 59)) #[(Go.Operand.tmp 15)] #[27])) (j := 5) (want := false) hF (by kernel_rfl) (by kernel_rfl) (by kernel_rfl) rfl fun ty pos af => ?_
    refine s_callB [_] hF (enters_of Try.func59 (by kernel_rfl) rfl) rfl (by decide) ((leaf70 d _ _ w0 w24 hy).mono fun e w' h => ⟨by rw [h.1, decide_eq_false hld], h.2⟩) fun w26 a B27 hF => ?_
    have sB27 := B27.size
    have hB := hB.trans (B27.mono hB.size)
    have m2 := m2.old B27
    have m3 := m3.old B27
    have hS := hS.below B27
    refine s_end ⟨hS, ?_⟩
    refine d_valg 10 17 12 (j := 5) (want := false) (op := (Go.Op.binOp Go.BinOp.neq 4 (Go.Operand.tmp 14) (Go.Operand.tmp 16) 4)) hF hS (by kernel_rfl) (by kernel_rfl) rfl (fun W hW => x_neqBB Try.underlying4 rfl rfl) (by kernel_rfl) (by decide) fun a hF => ?_
    refine d_val 11 18 (op := (Go.Op.pick (Go.Operand.tmp 12) (Go.Operand.const (Go.Value.bool true)) (Go.Operand.tmp 17))) hF hS (by kernel_rfl) (fun W hW => x_pick (b := false) rfl rfl) (by kernel_rfl) (by decide) fun a hF => ?_
    refine d_end (by kernel_rfl) (hK15 _ _ ?_)
    refine wp_if hF rfl ?_
    refine wp_skip (hK2 _ _ ?_)
    refine wp_seq_k fun K16 hK16 => ?_
    refine wp_rs fun K17 hK17 => ?_
    refine s_val hF (x_ldW wide27 m2 rfl rfl) (by decide) fun a hF => ?_
    refine s_callB [_] hF (enters_of Try.func59 (by kernel_rfl) rfl) rfl (by decide) ((leaf70 c _ _ w0 w26 hx).mono fun e w' h => ⟨by rw [h.1, decide_eq_false hlc], h.2⟩) fun w28 a B29 hF => ?_
    have sB29 := B29.size
    have hB := hB.trans (B29.mono hB.size)
    have m2 := m2.old B29
    have m3 := m3.old B29
    refine s_end (hK17 _ _ ?_)
    refine wp_if hF rfl ?_
    refine wp_skip (hK16 _ _ ?_)
    refine wp_seq_k fun K18 hK18 => ?_
    refine wp_rs fun K19 hK19 => ?_
    refine s_val hF (x_fa0 fa27_0 rfl) (by decide) fun a hF => ?_
    refine s_val hF (x_load rfl (m_load flat3 (m2.cell (j := 0) rfl))) (by decide) fun a hF => ?_
    refine s_end (hK19 _ _ ?_)
    refine wp_block ?_
    refine wp_rs fun K20 hK20 => ?_
    refine s_val hF (x_eql (b := false) (decide_eq_false (by omega)) rfl rfl) (by decide) fun a hF => ?_
    refine s_val hF (x_assign rfl) (by decide) fun a hF => ?_
    refine s_end (hK20 _ _ ?_)
    refine wp_if hF rfl ?_
    refine wp_rs fun K21 hK21 => ?_
    refine s_val hF (x_eql (b := false) (decide_eq_false (by omega)) rfl rfl) (by decide) fun a hF => ?_
    refine s_val hF (x_assign rfl) (by decide) fun a hF => ?_
    refine s_end (hK21 _ _ ?_)
    refine wp_if hF rfl ?_
    refine wp_rs fun K22 hK22 => ?_
    refine s_val hF (x_eql (b := false) (decide_eq_false (by omega)) rfl rfl) (by decide) fun a hF => ?_
    refine s_val hF (x_assign rfl) (by decide) fun a hF => ?_
    refine s_end (hK22 _ _ ?_)
    refine wp_if hF rfl ?_
    refine wp_skip (hK18 _ _ ?_)
    refine wp_seq_k fun K23 hK23 => ?_
    refine wp_rs fun K24 hK24 => ?_
    refine s_val hF (x_fa0 fa27_0 rfl) (by decide) fun a hF => ?_
    refine s_val hF (x_load rfl (m_load flat3 (m2.cell (j := 0) rfl))) (by decide) fun a hF => ?_
    refine s_callS [_] hF (enters_of Try.func87 (by kernel_rfl) rfl) rfl (by decide) ((kids54 xk w28).mono fun e w' h => ⟨(by rw [h.1, hkd] : e = .returned (.int .i64 (arT c.kd))), h.2⟩) fun a hF => ?_
    refine s_val hF (x_move rfl) (by decide) fun a hF => ?_
    refine s_end (hK24 _ _ ?_)
    refine wp_block ?_
    refine wp_up c.kids.length (fun i a w => Blk w b2 27 [.int .i64 xk, .int .i64 xn, .string xs, .int .i64 xl.1, .int .i64 xl.2.1, xl.2.2, xls, .slice av nv cv] ∧ Blk w b3 27 [.int .i64 yk, .int .i64 yn, .string ys, .int .i64 yl.1, .int .i64 yl.2.1, yl.2.2, yls, .slice au nu cu] ∧ Below w0.heap.size w0 w ∧ Fs 91 a [(2, .pointer (some ⟨b2, 0, none⟩)), (3, .pointer (some ⟨b3, 0, none⟩)), (74, .int .i64 (arT c.kd)), (75, .int .i64 (i : Int))]) ⟨m2, m3, hB, hF.sub _ rfl⟩ ?_
    have hbb : w0.heap.size ≤ b2 ∧ w0.heap.size ≤ b3 := by omega
    repeat clear hF
    clear hB m2 m3
    rintro i a w hi ⟨m2, m3, hB, hF⟩ K' hK'
    have sB := hB.size
    have hm2l := m2.lt
    have hm3l := m3.lt
    refine wp_rs fun K25 hK25 => ?_
    refine s_val hF (x_lss (b := decide (i < c.kids.length)) (decide_eq_decide.2 (by omega)) rfl rfl) (by decide) fun a hF => ?_
    refine s_end (hK25 _ _ ?_)
    refine wp_seq_k fun K26 hK26 => ?_
    refine wp_iff hF rfl (fun hc76 => ?_) (fun hc76 => ?_)
    · obtain ⟨b9, off9, c9, y9, p, hve, hyk, hry, hAb, hbl, hrow⟩ := hkid.row (i := i) (by omega)
      cases hve
      obtain ⟨b8, off8, c8, y8, q, hve, hyq, hrq, hAb8, hbl8, hrow8⟩ := hkiu.row (i := i) (by omega)
      cases hve
      have hks := CT.kid_size hyk
      have hpq := hnr.kids i p q hyk hyq
      refine wp_skip (hK26 _ _ ?_)
      refine wp_seq_k fun K27 hK27 => ?_
      refine wp_block ?_
      refine wp_rs fun K28 hK28 => ?_
      refine s_val hF (x_move rfl) (by decide) fun a hF => ?_
      refine s_val hF (x_assign rfl) (by decide) fun a hF => ?_
      refine s_end (hK28 _ _ ?_)
      refine dk2_seq (w.heap.size) (w.heap.size) (ops := regOps Try.f50 23) (N := 12) (by kernel_rfl) wide_orders (by kernel_rfl) fun w30 hw30 B31 hS K29 hK29 => ?_
      have zw30 : w30.heap.size = w.heap.size := by rw [hw30]
      have sB31 := B31.size
      have hB := hB.trans (B31.mono hB.size)
      have m2 := m2.old B31
      have m3 := m3.old B31
      have m2_d := m2
      have m3_d := m3
      have hB_d := hB
      refine d_val 0 78 (op := (Go.Op.fieldAddr 27 (Go.Operand.tmp 2) 5)) hF hS (by kernel_rfl) (fun W hW => x_fa0 fa27_5 rfl) (by kernel_rfl) (by decide) fun a hF => ?_
      refine d_val 1 79 (op := (Go.Op.load 25 (Go.Operand.tmp 78))) hF hS (by kernel_rfl) (fun W hW => x_load rfl (m_load flat25 ((m2_d.k2 hW (by omega)).cell (j := 7) rfl))) (by kernel_rfl) (by decide) fun a hF => ?_
      refine d_val 2 80 (op := (Go.Op.move (Go.Operand.tmp 6))) hF hS (by kernel_rfl) (fun W hW => x_move rfl) (by kernel_rfl) (by decide) fun a hF => ?_
      refine d_val 3 81 (op := (Go.Op.indexAddr 25 (Go.Operand.tmp 79) (Go.Operand.tmp 80))) hF hS (by kernel_rfl) (fun W hW => x_ixa rfl rfl (m_ixsK i Try.underlying25 el25.size rfl (by omega))) (by kernel_rfl) (by decide) fun a hF => ?_
      refine d_val 4 82 (op := (Go.Op.load 27 (Go.Operand.tmp 81))) hF hS (by kernel_rfl) (fun W hW => x_ldA wide27 (hrow _ ((hW.under hB_d (by omega)).block _ hbl)) rfl rfl) (by kernel_rfl) (by decide) fun a hF => ?_
      refine d_val 5 83 (op := (Go.Op.fieldAddr 27 (Go.Operand.tmp 3) 5)) hF hS (by kernel_rfl) (fun W hW => x_fa0 fa27_5 rfl) (by kernel_rfl) (by decide) fun a hF => ?_
      refine d_val 6 84 (op := (Go.Op.load 25 (Go.Operand.tmp 83))) hF hS (by kernel_rfl) (fun W hW => x_load rfl (m_load flat25 ((m3_d.k2 hW (by omega)).cell (j := 7) rfl))) (by kernel_rfl) (by decide) fun a hF => ?_
      refine d_val 7 85 (op := (Go.Op.move (Go.Operand.tmp 6))) hF hS (by kernel_rfl) (fun W hW => x_move rfl) (by kernel_rfl) (by decide) fun a hF => ?_
      refine d_val 8 86 (op := (Go.Op.indexAddr 25 (Go.Operand.tmp 84) (Go.Operand.tmp 85))) hF hS (by kernel_rfl) (fun W hW => x_ixa rfl rfl (m_ixsK i Try.underlying25 el25.size rfl (by omega))) (by kernel_rfl) (by decide) fun a hF => ?_
      refine d_val 9 87 (op := (Go.Op.load 27 (Go.Operand.tmp 86))) hF hS (by kernel_rfl) (fun W hW => x_ldA wide27 (hrow8 _ ((hW.under hB_d (by omega)).block _ hbl8)) rfl rfl) (by kernel_rfl) (by decide) fun a hF => ?_
      refine d_one 10 (some 88) (Go.Op.call (Go.Call.mk (Go.Callee.value (Go.Operand.func 50)) #[(Go.Operand.tmp 82), (Go.Operand.tmp 87)] #[27, 27])) (by kernel_rfl) (by kernel_rfl) fun ty pos af => ?_
      refine s_callB [_, _] hF (enters_of Try.func50 (by kernel_rfl) rfl) rfl (by decide) (ih p q y9 y8 w30 (by omega) (hry.bel hB) (hrq.bel hB) hpq.1 hpq.2) fun w32 a B33 hF => ?_
      have sB33 := B33.size
      have hB := hB.trans (B33.mono hB.size)
      have m2 := m2.old B33
      have m3 := m3.old B33
      have hS := hS.below B33
      refine s_end ⟨hS, ?_⟩
      refine d_val 11 89 (op := (Go.Op.unOp Go.UnOp.not 4 (Go.Operand.tmp 88))) hF hS (by kernel_rfl) (fun W hW => x_not rfl) (by kernel_rfl) (by decide) fun a hF => ?_
      refine d_end (by kernel_rfl) (hK29 _ _ ?_)
      refine wp_if hF rfl ?_
      refine wp_skip (hK27 _ _ ?_)
      refine wp_region_lit ?_
      refine s_val hF (x_addn (i + 1) (by omega) (by omega) rfl rfl) (by decide) fun a hF => ?_
      refine s_val hF (x_move rfl) (by decide) fun a hF => ?_
      refine s_end (hK' _ _ (by omega) ⟨m2, m3, hB, hF.sub _ rfl⟩)
    · refine wp_exit (hK23 _ _ ?_)
      refine wp_rs fun K30 hK30 => ?_
      refine s_val hF (x_assign rfl) (by decide) fun a hF => ?_
      refine s_end (hK30 _ _ ?_)
      refine wp_ret (res_slot hF rfl rfl ⟨rfl, hB⟩)

set_option maxRecDepth 100000 in
set_option maxHeartbeats 1600000 in
theorem alike23 (c d : CT) (x y : C8) (w0 : World) (hx : RC w0 (fun k => k < w0.heap.size) c x) (hy : RC w0 (fun k => k < w0.heap.size) d y) (he : c.ess = d.ess) (hp : c.ess.plain) : Calls Try.prog 19 #[tv x, tv y] w0 fun e w' => e = .returned (.bool true) ∧ Below w0.heap.size w0 w' := by
  have hok : c.ok ↔ d.ok := by rw [← c.ok_ess, ← d.ok_ess, he]
  have hB := Below.refl w0.heap.size w0
  have sB := hB.size
  refine calls_fs 19 [(0, tv x), (1, tv y)] Try.func19 rfl rfl rfl rfl rfl fun a hF => ?_
  refine wp_rs fun K1 hK1 => ?_
  refine s_box (tc x) hF (by decide) rfl rfl fun w2 b2 a eb2 m2 B3 zb2 hF => ?_
  have sB3 := B3.size
  have hB := hB.trans (B3.mono hB.size)
  refine s_box (tc y) hF (by decide) rfl rfl fun w4 b3 a eb3 m3 B5 zb3 hF => ?_
  have sB5 := B5.size
  have hB := hB.trans (B5.mono hB.size)
  have m2 := m2.old B5
  refine s_val hF (x_assign rfl) (by decide) fun a hF => ?_
  refine s_end (hK1 _ _ ?_)
  refine wp_seq_k fun K2 hK2 => ?_
  rcases (show ¬ c.ok ∨ c.ok by by_cases h : c.ok <;> simp [h]) with hk1 | hk1
  · skip
    refine wp_rs fun K4 hK4 => ?_
    refine s_val hF (x_ldW wide27 m2 rfl rfl) (by decide) fun a hF => ?_
    refine s_callB [_] hF (enters_of Try.func10 (by kernel_rfl) rfl) rfl (by decide) ((TooGreat14 c x w4 (hx.bel hB)).mono fun e w' h => ⟨by rw [h.1, decide_eq_true (p := ¬ c.ok) hk1], h.2⟩) fun w6 a B7 hF => ?_
    have sB7 := B7.size
    have hB := hB.trans (B7.mono hB.size)
    have m2 := m2.old B7
    have m3 := m3.old B7
    refine s_val hF (x_move rfl) (by decide) fun a hF => ?_
    refine s_grdn 7 hF rfl rfl (by decide) fun a hF => ?_
    refine s_grdn 7 hF rfl rfl (by decide) fun a hF => ?_
    refine s_val hF (x_pick (b := true) rfl rfl) (by decide) fun a hF => ?_
    refine s_end (hK4 _ _ ?_)
    refine wp_if hF rfl ?_
    refine dk2_seq (w6.heap.size) (w6.heap.size) (ops := regOps Try.f19 2) (N := 6) (by kernel_rfl) wide_orders (by kernel_rfl) fun w8 hw8 B9 hS K5 hK5 => ?_
    have zw8 : w8.heap.size = w6.heap.size := by rw [hw8]
    have sB9 := B9.size
    have hB := hB.trans (B9.mono hB.size)
    have m2 := m2.old B9
    have m3 := m3.old B9
    have m2_d := m2
    have m3_d := m3
    have hB_d := hB
    refine d_val 0 11 (op := (Go.Op.load 27 (Go.Operand.tmp 2))) hF hS (by kernel_rfl) (fun W hW => x_ldW wide27 (m2_d.k2 hW (by omega)) rfl rfl) (by kernel_rfl) (by decide) fun a hF => ?_
    refine d_val 2 13 (op := (Go.Op.load 27 (Go.Operand.tmp 3))) hF hS (by kernel_rfl) (fun W hW => x_ldW wide27 (m3_d.k2 hW (by omega)) rfl rfl) (by kernel_rfl) (by decide) fun a hF => ?_
    refine d_one 1 (some 12) (Go.Op.call (Go.Call.mk (Go.Callee.value (Go.Operand.func 10)) #[(Go.Operand.tmp 11)] #[27])) (by kernel_rfl) (by kernel_rfl) fun ty pos af => ?_
    refine s_callB [_] hF (enters_of Try.func10 (by kernel_rfl) rfl) rfl (by decide) ((TooGreat14 c x w8 (hx.bel hB)).mono fun e w' h => ⟨by rw [h.1, decide_eq_true (p := ¬ c.ok) hk1], h.2⟩) fun w10 a B11 hF => ?_
    have sB11 := B11.size
    have hB := hB.trans (B11.mono hB.size)
    have m2 := m2.old B11
    have m3 := m3.old B11
    have hS := hS.below B11
    refine s_end ⟨hS, ?_⟩
    refine d_one 3 (some 14) (Go.Op.call (Go.Call.mk (Go.Callee.value (Go.Operand.func 10)) #[(Go.Operand.tmp 13)] #[27])) (by kernel_rfl) (by kernel_rfl) fun ty pos af => ?_
    refine s_callB [_] hF (enters_of Try.func10 (by kernel_rfl) rfl) rfl (by decide) ((TooGreat14 d y w10 (hy.bel hB)).mono fun e w' h => ⟨by rw [h.1, decide_eq_true (p := ¬ d.ok) (fun h => hk1 (hok.2 h))], h.2⟩) fun w12 a B13 hF => ?_
    have sB13 := B13.size
    have hB := hB.trans (B13.mono hB.size)
    have m2 := m2.old B13
    have m3 := m3.old B13
    have hS := hS.below B13
    refine s_end ⟨hS, ?_⟩
    refine d_val 4 15 (op := (Go.Op.binOp Go.BinOp.eql 4 (Go.Operand.tmp 12) (Go.Operand.tmp 14) 4)) hF hS (by kernel_rfl) (fun W hW => x_eqB (b := true) Try.underlying4 (by simp) rfl rfl) (by kernel_rfl) (by decide) fun a hF => ?_
    refine d_val 5 4 (op := (Go.Op.assign (Go.Operand.tmp 15))) hF hS (by kernel_rfl) (fun W hW => x_assign rfl) (by kernel_rfl) (by decide) fun a hF => ?_
    refine d_end (by kernel_rfl) (hK5 _ _ ?_)
    refine wp_ret (then_ret (res_slot hF rfl rfl ⟨rfl, hB⟩))
  · skip
    refine wp_rs fun K6 hK6 => ?_
    refine s_val hF (x_ldW wide27 m2 rfl rfl) (by decide) fun a hF => ?_
    refine s_callB [_] hF (enters_of Try.func10 (by kernel_rfl) rfl) rfl (by decide) ((TooGreat14 c x w4 (hx.bel hB)).mono fun e w' h => ⟨by rw [h.1, decide_eq_false (p := ¬ c.ok) (fun h => h hk1)], h.2⟩) fun w14 a B15 hF => ?_
    have sB15 := B15.size
    have hB := hB.trans (B15.mono hB.size)
    have m2 := m2.old B15
    have m3 := m3.old B15
    refine s_val hF (x_move rfl) (by decide) fun a hF => ?_
    refine s_grd 7 hF rfl rfl rfl ?_
    refine s_val hF (x_ldW wide27 m3 rfl rfl) (by decide) fun a hF => ?_
    refine s_grd 7 hF rfl rfl rfl ?_
    refine s_callB [_] hF (enters_of Try.func10 (by kernel_rfl) rfl) rfl (by decide) ((TooGreat14 d y w14 (hy.bel hB)).mono fun e w' h => ⟨by rw [h.1, decide_eq_false (p := ¬ d.ok) (fun h => h (hok.1 hk1))], h.2⟩) fun w16 a B17 hF => ?_
    have sB17 := B17.size
    have hB := hB.trans (B17.mono hB.size)
    have m2 := m2.old B17
    have m3 := m3.old B17
    refine s_val hF (x_pick (b := false) rfl rfl) (by decide) fun a hF => ?_
    refine s_end (hK6 _ _ ?_)
    refine wp_if hF rfl ?_
    refine wp_skip (hK2 _ _ ?_)
    refine wp_rs fun K7 hK7 => ?_
    refine s_val hF (x_ldW wide27 m2 rfl rfl) (by decide) fun a hF => ?_
    refine s_val hF (x_ldW wide27 m3 rfl rfl) (by decide) fun a hF => ?_
    refine s_callB [_, _] hF (enters_of Try.func50 (by kernel_rfl) rfl) rfl (by decide) (near61 (c.size + 1) c d x y w16 (by omega) (hx.bel hB) (hy.bel hB) he hp) fun w18 a B19 hF => ?_
    have sB19 := B19.size
    have hB := hB.trans (B19.mono hB.size)
    have m2 := m2.old B19
    have m3 := m3.old B19
    refine s_val hF (x_assign rfl) (by decide) fun a hF => ?_
    refine s_end (hK7 _ _ ?_)
    refine wp_ret (res_slot hF rfl rfl ⟨rfl, hB⟩)
end Go.Proofs.Ytaclncmkdpjnlaa
