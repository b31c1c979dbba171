/- The reference's Loose, Mentions. -/
import Derived.Test.YtgpciphjhnabcaaTerm24
namespace Go.Proofs.Ytgpciphjhnabcaa
open Go.RowKit Go.Shelf
set_option linter.unusedVariables false
set_option linter.unusedSimpArgs false

theorem fa90_0 : fldB Try.prog 90 0 0 = true := by kernel_rfl
theorem fa90_1 : fldB Try.prog 90 1 8 = true := by kernel_rfl
theorem zero90 : (Try.prog.info? 90).bind (·.zero) = some (.agg (z8 ++ [Value.int .i64 0]).toArray) := by kernel_rfl
theorem one9 {y : C8} {d : Int} (h : ∀ u ∈ tc y, u.oneCell' = true) : ∀ u ∈ enc9 (y, d), u.oneCell' = true := by
  intro u hu
  rcases List.mem_append.1 hu with hu | hu
  · exact h u hu
  · rw [List.mem_singleton.1 hu]; rfl
theorem rd_row9 {W : World} {v : Value} {xs : List (C8 × Int)} (h : Rd W v 9 xs.length (xs.flatMap enc9)) {i : Nat} (hi : i < xs.length) :
    ∃ b off c x, v = .slice (some ⟨b, off, none⟩) xs.length c ∧ xs[i]? = some x ∧ ∀ W', Below W.heap.size W W' → ∀ j u, (enc9 x)[j]? = some u → W'.cell? ((⟨b, off + i * 9, none⟩ : Addr).add j) = some u := by
  obtain ⟨b, off, c, rfl, hb⟩ := h.some (by omega)
  refine ⟨b, off, c, xs[i], rfl, List.getElem?_eq_getElem hi, fun W' hB j u hj => ?_⟩
  rw [addr_addn, Nat.add_assoc]
  have hl : ∀ e, (enc9 e).length = 9 := fun e => by simp [enc9, tc]
  have h2 : ∀ (xs : List (C8 × Int)) (i : Nat) (hi : i < xs.length), (enc9 xs[i])[j]? = some u → (xs.flatMap enc9)[i * 9 + j]? = some u := by
    intro xs
    induction xs with
    | nil => intro i hi; simp at hi
    | cons y xs ih =>
      intro i hi hj
      have hj2 : j < 9 := by have := (List.getElem?_eq_some_iff.1 hj).1; rw [hl] at this; exact this
      cases i with
      | zero => rw [List.flatMap_cons, List.getElem?_append_left (by rw [hl]; omega)]; simpa using hj
      | succ i => rw [List.flatMap_cons, List.getElem?_append_right (by rw [hl]; omega), show (i + 1) * 9 + j - (enc9 y).length = i * 9 + j by rw [hl]; omega]; exact ih i (by simpa using hi) (by simpa using hj)
  exact (hB.cell (p := ⟨b, off + (i * 9 + j), none⟩) hb).trans (h.cell (h2 xs i hi hj))
def lstL (n : Int) (l : CT × Int) : Int := max n (match l.1 with | .var k _ => if l.2 ≤ k then min (k - l.2 + 1) 9223372036854775807 else 0 | _ => 0)
theorem CT.leaves_ge : ∀ (c : CT) (d : Int), ∀ l ∈ c.leaves d, d ≤ l.2
  | .two k a b m, d, l, h => by
    have h1 := (CT.two k a b m).bnd_is 0
    have h2 := (CT.two k a b m).bnd_is 1
    rcases List.mem_append.1 h with h | h
    · have := a.leaves_ge _ l h; omega
    · have := b.leaves_ge _ l h; omega
  | .lt a b c m, d, l, h => by
    have h1 := (CT.lt a b c m).bnd_is 0
    have h2 := (CT.lt a b c m).bnd_is 1
    have h3 := (CT.lt a b c m).bnd_is 2
    rcases List.mem_append.1 h with h | h
    · have := a.leaves_ge _ l h; omega
    · rcases List.mem_append.1 h with h | h
      · have := b.leaves_ge _ l h; omega
      · have := c.leaves_ge _ l h; omega
  | .var .., d, l, h => by simp [CT.leaves] at h; subst h; exact Int.le_refl _
  | .sort .., d, l, h => by simp [CT.leaves] at h; subst h; exact Int.le_refl _
  | .cst .., d, l, h => by simp [CT.leaves] at h; subst h; exact Int.le_refl _
  | .odd .., d, l, h => by simp [CT.leaves] at h; subst h; exact Int.le_refl _
theorem leaves_loose : ∀ (c : CT) (d n : Int), 0 ≤ n → (c.leaves d).foldl lstL n = max n (c.ess.loose d)
  | .two k a b m, d, n, hn => by
    have h1 := a.ess.loose_nn (d + (CT.two k a b m).bnd 0)
    simp only [CT.leaves, List.foldl_append]
    rw [leaves_loose a _ n hn, leaves_loose b _ _ (by omega)]
    simp only [CT.ess, PT.loose, bnd2_0, bnd2_1, Int.add_zero]
    omega
  | .lt a b c m, d, n, hn => by
    have h1 := a.ess.loose_nn (d + (CT.lt a b c m).bnd 0)
    have h2 := b.ess.loose_nn (d + (CT.lt a b c m).bnd 1)
    simp only [CT.leaves, List.foldl_append]
    rw [leaves_loose a _ n hn, leaves_loose b _ _ (by omega), leaves_loose c _ _ (by omega)]
    simp only [CT.ess, PT.loose, bnd3_0, bnd3_1, bnd3_2, Int.add_zero]
    omega
  | .var .., d, n, hn => by simp only [CT.leaves, List.foldl_cons, List.foldl_nil, lstL, CT.ess, PT.loose]
  | .sort .., d, n, hn => by simp only [CT.leaves, List.foldl_cons, List.foldl_nil, lstL, CT.ess, PT.loose]
  | .cst .., d, n, hn => by simp only [CT.leaves, List.foldl_cons, List.foldl_nil, lstL, CT.ess, PT.loose]
  | .odd .., d, n, hn => by simp only [CT.leaves, List.foldl_cons, List.foldl_nil, lstL, CT.ess, PT.loose]
def isC (s : ByteArray) : CT → Bool
  | .cst t _ _ => decide (t = s)
  | _ => false
def CT.menR (c : CT) (s : ByteArray) : Bool := decide c.ok && (c.leaves 0).any (fun l => isC s l.1)

set_option maxRecDepth 100000 in
set_option maxHeartbeats 400000 in
theorem rLoose37 (c : CT) (x : C8) (w0 : World) (hx : RC w0 (fun k => k < w0.heap.size) c x) : Calls Try.prog 37 #[tv x] w0 fun e w' => e = .returned (.int .i64 c.looseR) ∧ Below w0.heap.size w0 w' := by
  have hB := Below.refl w0.heap.size w0
  have sB := hB.size
  refine calls_fs 43 [(0, tv x)] Try.func37 rfl rfl rfl rfl rfl fun a hF => ?_
  refine wp_rs fun K1 hK1 => ?_
  refine s_box (tc x) hF (by decide) rfl rfl fun w2 b1 a eb1 m1 B3 zb1 hF => ?_
  have sB3 := B3.size
  have hB := hB.trans (B3.mono hB.size)
  refine s_val hF (x_assign rfl) (by decide) fun a hF => ?_
  refine s_end (hK1 _ _ ?_)
  refine wp_rs fun K2 hK2 => ?_
  refine s_val hF (x_assign rfl) (by decide) fun a hF => ?_
  refine s_end (hK2 _ _ ?_)
  refine wp_seq_k fun K3 hK3 => ?_
  rcases (show ¬ c.ok ∨ c.ok by by_cases h : c.ok <;> simp [h]) with hk1 | hk1
  · skip
    refine wp_rs fun K5 hK5 => ?_
    refine s_val hF (x_ldW wide27 m1 rfl rfl) (by decide) fun a hF => ?_
    refine s_callB [_] hF (enters_of Try.func14 (by kernel_rfl) rfl) rfl (by decide) ((TooGreat14 c x w2 (hx.bel hB)).mono fun e w' h => ⟨by rw [h.1, decide_eq_true hk1], h.2⟩) fun w4 a B5 hF => ?_
    have sB5 := B5.size
    have hB := hB.trans (B5.mono hB.size)
    have m1 := m1.old B5
    refine s_end (hK5 _ _ ?_)
    refine wp_if hF rfl ?_
    refine wp_rs fun K6 hK6 => ?_
    refine s_val hF (x_assign rfl) (by decide) fun a hF => ?_
    refine s_end (hK6 _ _ ?_)
    have hz : c.looseR = 0 := if_neg hk1
    refine wp_ret (then_ret (res_slot hF rfl rfl ⟨by rw [hz], hB⟩))
  · skip
    refine wp_rs fun K7 hK7 => ?_
    refine s_val hF (x_ldW wide27 m1 rfl rfl) (by decide) fun a hF => ?_
    refine s_callB [_] hF (enters_of Try.func14 (by kernel_rfl) rfl) rfl (by decide) ((TooGreat14 c x w2 (hx.bel hB)).mono fun e w' h => ⟨by rw [h.1, decide_eq_false (fun h => h hk1)], h.2⟩) fun w6 a B7 hF => ?_
    have sB7 := B7.size
    have hB := hB.trans (B7.mono hB.size)
    have m1 := m1.old B7
    refine s_end (hK7 _ _ ?_)
    refine wp_if hF rfl ?_
    refine wp_skip (hK3 _ _ ?_)
    refine wp_seq_k fun K8 hK8 => ?_
    refine wp_rs fun K9 hK9 => ?_
    refine s_val hF (x_ldW wide27 m1 rfl rfl) (by decide) fun a hF => ?_
    refine s_call (R := fun u w' => ((∃ o' es', w'.ownsRow w0.heap.size 90 9 u es'.length (es'.flatMap enc9) ∧ (∀ j, u.ownBlock = some j → j = o') ∧ ((o' = b1 ∨ w6.heap.size ≤ o') ∧ o' < w'.heap.size) ∧ LTw w0 es' ([] ++ c.leaves 0))) ∧ Ktw b1 b1 w6 w') hF [_, _, _] (enters_of Try.func80 (by kernel_rfl) rfl) rfl (by decide) (ends80 w0 w0.heap.size (c.size + 1) c x (by omega) hx 0 nilS b1 [] [] w6 (by decide) (by have := hk1.2; omega) (by have := hk1.1; simp; omega) hB hB.size (by omega) (by omega) (World.ownsRow_nil _ _ _ _) (fun j h => by cases h) (LTw.nil _)) ?_
    rintro v10 w8 a ⟨⟨o9, es9, hO9, _, _, hLT⟩, k9⟩ hF
    have sk9 := k9.size
    have hB := k9.under hB (by omega)
    rw [List.nil_append] at hLT
    have hR9 := Rd.own hO9
    have hl9 := hLT.1
    have hl8 := c.leaves_len 0
    have hk2 := hk1.1
    obtain ⟨a10, c10, hv10, _⟩ := hR9.form
    subst hv10
    refine s_val hF (x_len Try.underlying87 rfl) (by decide) fun a hF => ?_
    refine s_val hF (x_move rfl) (by decide) fun a hF => ?_
    refine s_end (hK9 _ _ ?_)
    refine wp_block ?_
    refine wp_up es9.length (fun i a w => ∃ m, m = ((c.leaves 0).take i).foldl lstL 0 ∧ (0 ≤ m ∧ m ≤ 9223372036854775807) ∧ Below w0.heap.size w0 w ∧ Below w8.heap.size w8 w ∧ Fs 43 a [(3, .int .i64 m), (10, .slice a10 es9.length c10), (11, .int .i64 (es9.length : Int)), (12, .int .i64 (i : Int))]) ⟨0, by simp, by omega, hB, Below.refl _ _, hF.sub _ rfl⟩ ?_
    repeat clear hF
    clear hB
    rintro i a w hi ⟨m, hm, hmr, hB, hBA, hF⟩ K' hK'
    have sB := hB.size
    have sBA := hBA.size
    refine wp_rs fun K10 hK10 => ?_
    refine s_val hF (x_lss (b := decide (i < es9.length)) (decide_eq_decide.2 (by omega)) rfl rfl) (by decide) fun a hF => ?_
    refine s_end (hK10 _ _ ?_)
    refine wp_seq_k fun K11 hK11 => ?_
    refine wp_iff hF rfl (fun hc13 => ?_) (fun hc13 => ?_)
    · obtain ⟨b9, off9, c9, e9, hve, he9, hrow⟩ := rd_row9 hR9 (i := i) (by omega)
      cases hve
      obtain ⟨y, dd⟩ := e9
      obtain ⟨⟨lc9, ld9⟩, hlf⟩ : ∃ l, (c.leaves 0)[i]? = some l := ⟨_, List.getElem?_eq_getElem (by omega)⟩
      obtain ⟨hry, hdd⟩ := hLT.2 i _ _ he9 hlf
      simp only at hry hdd
      subst hdd
      have hge := c.leaves_ge 0 _ (List.mem_of_getElem? hlf)
      simp only at hge
      have htk := take_snoc hlf
      refine wp_skip (hK11 _ _ ?_)
      refine wp_seq_k fun K12 hK12 => ?_
      refine wp_block ?_
      refine wp_rs fun K13 hK13 => ?_
      refine s_val hF (x_ixa rfl rfl (m_ixsK i Try.underlying87 el87.size rfl (by omega))) (by decide) fun a hF => ?_
      refine s_val hF (x_ldA wide90 (hrow _ hBA) rfl rfl) (by decide) fun a hF => ?_
      refine s_alloc hF (by decide) zero90 fun w10 b5 a eb5 m5 B11 zb5 hF => ?_
      have sB11 := B11.size
      have hB := hB.trans (B11.mono hB.size)
      have hBA := hBA.trans (B11.mono hBA.size)
      refine s_putW hF rfl rfl (size_wide wide90) m5 rfl (one9 hry.one) fun w14 m5 o15 => ?_
      have so15 := o15.size
      have hB := hB.trans (o15.below (by omega))
      have hBA := hBA.trans (o15.below (by omega))
      refine s_end (hK13 _ _ ?_)
      rcases (show (y.k = 1 ∧ dd ≤ y.n ∧ y.n - dd = 9223372036854775807) ∨ (y.k = 1 ∧ dd ≤ y.n ∧ ¬ y.n - dd = 9223372036854775807) ∨ (y.k = 1 ∧ ¬ dd ≤ y.n) ∨ y.k ≠ 1 by omega) with hq | hq | hq | hq
      · obtain ⟨n9, m9_, rfl⟩ := hry.var_of (show y.k = 1 from hq.1)
        have hn9 : y.n = n9 := hry.2.1
        have hn64 := hry.2.2.1
        unfold in64 at hn64
        have hls : lstL m (.var n9 m9_, dd) = y.n - dd := by simp only [lstL]; rw [if_pos (by omega)]; omega
        refine wp_rs fun K15 hK15 => ?_
        refine s_val hF (x_fa0 fa90_0 rfl) (by decide) fun a hF => ?_
        refine s_val hF (x_fa0 fa27_0 rfl) (by decide) fun a hF => ?_
        refine s_val hF (x_load rfl (m_load flat3 (m5.cell (j := 0) rfl))) (by decide) fun a hF => ?_
        refine s_val hF (x_eql (b := true) (decide_eq_true (show y.k = 1 from hq.1)) rfl rfl) (by decide) fun a hF => ?_
        refine s_val hF (x_move rfl) (by decide) fun a hF => ?_
        refine s_grd 20 hF rfl rfl rfl ?_
        refine s_val hF (x_fa0 fa90_0 rfl) (by decide) fun a hF => ?_
        refine s_grd 20 hF rfl rfl rfl ?_
        refine s_val hF (x_fa0 fa27_1 rfl) (by decide) fun a hF => ?_
        refine s_grd 20 hF rfl rfl rfl ?_
        refine s_val hF (x_load rfl (m_load flat3 (m5.cell (j := 1) rfl))) (by decide) fun a hF => ?_
        refine s_grd 20 hF rfl rfl rfl ?_
        refine s_val hF (x_fa0 fa90_1 rfl) (by decide) fun a hF => ?_
        refine s_grd 20 hF rfl rfl rfl ?_
        refine s_val hF (x_load rfl (m_load flat3 (m5.cell (j := 8) rfl))) (by decide) fun a hF => ?_
        refine s_grd 20 hF rfl rfl rfl ?_
        refine s_val hF (x_geq (p := y.n) (q := dd) (b := true) (decide_eq_true (by omega)) rfl rfl) (by decide) fun a hF => ?_
        refine s_val hF (x_pick (b := true) rfl rfl) (by decide) fun a hF => ?_
        refine s_end (hK15 _ _ ?_)
        refine wp_if hF rfl ?_
        refine wp_rs fun K16 hK16 => ?_
        refine s_val hF (x_fa0 fa90_0 rfl) (by decide) fun a hF => ?_
        refine s_val hF (x_fa0 fa27_1 rfl) (by decide) fun a hF => ?_
        refine s_val hF (x_load rfl (m_load flat3 (m5.cell (j := 1) rfl))) (by decide) fun a hF => ?_
        refine s_val hF (x_fa0 fa90_1 rfl) (by decide) fun a hF => ?_
        refine s_val hF (x_load rfl (m_load flat3 (m5.cell (j := 8) rfl))) (by decide) fun a hF => ?_
        refine s_val hF (x_sub (p := y.n) (q := dd) (by omega) (by omega) rfl rfl) (by decide) fun a hF => ?_
        refine s_val hF (x_assign rfl) (by decide) fun a hF => ?_
        refine s_end (hK16 _ _ ?_)
        refine wp_rs fun K17 hK17 => ?_
        refine s_val hF (x_move rfl) (by decide) fun a hF => ?_
        refine s_val hF (x_eql (b := true) (decide_eq_true (by omega)) rfl rfl) (by decide) fun a hF => ?_
        refine s_end (hK17 _ _ ?_)
        refine wp_if hF rfl ?_
        refine wp_region_lit ?_
        refine s_val hF (x_move rfl) (by decide) fun a hF => ?_
        refine s_val hF (x_assign rfl) (by decide) fun a hF => ?_
        refine s_end (hK12 _ _ ?_)
        refine wp_region_lit ?_
        refine s_val hF (x_addn (i + 1) (by omega) (by omega) rfl rfl) (by decide) fun a hF => ?_
        refine s_val hF (x_move rfl) (by decide) fun a hF => ?_
        refine s_end (hK' _ _ (by omega) ⟨_, by rw [htk, List.foldl_append, List.foldl_cons, List.foldl_nil, ← hm, hls], by omega, hB, hBA, hF.sub _ rfl⟩)
      · obtain ⟨n9, m9_, rfl⟩ := hry.var_of (show y.k = 1 from hq.1)
        have hn9 : y.n = n9 := hry.2.1
        have hn64 := hry.2.2.1
        unfold in64 at hn64
        have hls : lstL m (.var n9 m9_, dd) = max m (y.n - dd + 1) := by simp only [lstL]; rw [if_pos (by omega)]; omega
        refine wp_rs fun K18 hK18 => ?_
        refine s_val hF (x_fa0 fa90_0 rfl) (by decide) fun a hF => ?_
        refine s_val hF (x_fa0 fa27_0 rfl) (by decide) fun a hF => ?_
        refine s_val hF (x_load rfl (m_load flat3 (m5.cell (j := 0) rfl))) (by decide) fun a hF => ?_
        refine s_val hF (x_eql (b := true) (decide_eq_true (show y.k = 1 from hq.1)) rfl rfl) (by decide) fun a hF => ?_
        refine s_val hF (x_move rfl) (by decide) fun a hF => ?_
        refine s_grd 20 hF rfl rfl rfl ?_
        refine s_val hF (x_fa0 fa90_0 rfl) (by decide) fun a hF => ?_
        refine s_grd 20 hF rfl rfl rfl ?_
        refine s_val hF (x_fa0 fa27_1 rfl) (by decide) fun a hF => ?_
        refine s_grd 20 hF rfl rfl rfl ?_
        refine s_val hF (x_load rfl (m_load flat3 (m5.cell (j := 1) rfl))) (by decide) fun a hF => ?_
        refine s_grd 20 hF rfl rfl rfl ?_
        refine s_val hF (x_fa0 fa90_1 rfl) (by decide) fun a hF => ?_
        refine s_grd 20 hF rfl rfl rfl ?_
        refine s_val hF (x_load rfl (m_load flat3 (m5.cell (j := 8) rfl))) (by decide) fun a hF => ?_
        refine s_grd 20 hF rfl rfl rfl ?_
        refine s_val hF (x_geq (p := y.n) (q := dd) (b := true) (decide_eq_true (by omega)) rfl rfl) (by decide) fun a hF => ?_
        refine s_val hF (x_pick (b := true) rfl rfl) (by decide) fun a hF => ?_
        refine s_end (hK18 _ _ ?_)
        refine wp_if hF rfl ?_
        refine wp_rs fun K19 hK19 => ?_
        refine s_val hF (x_fa0 fa90_0 rfl) (by decide) fun a hF => ?_
        refine s_val hF (x_fa0 fa27_1 rfl) (by decide) fun a hF => ?_
        refine s_val hF (x_load rfl (m_load flat3 (m5.cell (j := 1) rfl))) (by decide) fun a hF => ?_
        refine s_val hF (x_fa0 fa90_1 rfl) (by decide) fun a hF => ?_
        refine s_val hF (x_load rfl (m_load flat3 (m5.cell (j := 8) rfl))) (by decide) fun a hF => ?_
        refine s_val hF (x_sub (p := y.n) (q := dd) (by omega) (by omega) rfl rfl) (by decide) fun a hF => ?_
        refine s_val hF (x_assign rfl) (by decide) fun a hF => ?_
        refine s_end (hK19 _ _ ?_)
        refine wp_rs fun K20 hK20 => ?_
        refine s_val hF (x_move rfl) (by decide) fun a hF => ?_
        refine s_val hF (x_eql (b := false) (decide_eq_false (by omega)) rfl rfl) (by decide) fun a hF => ?_
        refine s_end (hK20 _ _ ?_)
        refine wp_if hF rfl ?_
        refine wp_region_lit ?_
        refine s_val hF (x_move rfl) (by decide) fun a hF => ?_
        refine s_val hF (x_move rfl) (by decide) fun a hF => ?_
        refine s_val hF (x_add (by omega) (by omega) rfl rfl) (by decide) fun a hF => ?_
        refine s_val hF (x_imax rfl rfl) (by decide) fun a hF => ?_
        refine s_val hF (x_assign rfl) (by decide) fun a hF => ?_
        refine s_end (hK12 _ _ ?_)
        refine wp_region_lit ?_
        refine s_val hF (x_addn (i + 1) (by omega) (by omega) rfl rfl) (by decide) fun a hF => ?_
        refine s_val hF (x_move rfl) (by decide) fun a hF => ?_
        refine s_end (hK' _ _ (by omega) ⟨_, by rw [htk, List.foldl_append, List.foldl_cons, List.foldl_nil, ← hm, hls], by omega, hB, hBA, hF.sub _ rfl⟩)
      · obtain ⟨n9, m9_, rfl⟩ := hry.var_of (show y.k = 1 from hq.1)
        have hn9 : y.n = n9 := hry.2.1
        have hn64 := hry.2.2.1
        unfold in64 at hn64
        have hls : lstL m (.var n9 m9_, dd) = m := by simp only [lstL]; rw [if_neg (by omega)]; omega
        refine wp_rs fun K21 hK21 => ?_
        refine s_val hF (x_fa0 fa90_0 rfl) (by decide) fun a hF => ?_
        refine s_val hF (x_fa0 fa27_0 rfl) (by decide) fun a hF => ?_
        refine s_val hF (x_load rfl (m_load flat3 (m5.cell (j := 0) rfl))) (by decide) fun a hF => ?_
        refine s_val hF (x_eql (b := true) (decide_eq_true (show y.k = 1 from hq.1)) rfl rfl) (by decide) fun a hF => ?_
        refine s_val hF (x_move rfl) (by decide) fun a hF => ?_
        refine s_grd 20 hF rfl rfl rfl ?_
        refine s_val hF (x_fa0 fa90_0 rfl) (by decide) fun a hF => ?_
        refine s_grd 20 hF rfl rfl rfl ?_
        refine s_val hF (x_fa0 fa27_1 rfl) (by decide) fun a hF => ?_
        refine s_grd 20 hF rfl rfl rfl ?_
        refine s_val hF (x_load rfl (m_load flat3 (m5.cell (j := 1) rfl))) (by decide) fun a hF => ?_
        refine s_grd 20 hF rfl rfl rfl ?_
        refine s_val hF (x_fa0 fa90_1 rfl) (by decide) fun a hF => ?_
        refine s_grd 20 hF rfl rfl rfl ?_
        refine s_val hF (x_load rfl (m_load flat3 (m5.cell (j := 8) rfl))) (by decide) fun a hF => ?_
        refine s_grd 20 hF rfl rfl rfl ?_
        refine s_val hF (x_geq (p := y.n) (q := dd) (b := false) (decide_eq_false (by omega)) rfl rfl) (by decide) fun a hF => ?_
        refine s_val hF (x_pick (b := true) rfl rfl) (by decide) fun a hF => ?_
        refine s_end (hK21 _ _ ?_)
        refine wp_if hF rfl ?_
        refine wp_skip (hK12 _ _ ?_)
        refine wp_region_lit ?_
        refine s_val hF (x_addn (i + 1) (by omega) (by omega) rfl rfl) (by decide) fun a hF => ?_
        refine s_val hF (x_move rfl) (by decide) fun a hF => ?_
        refine s_end (hK' _ _ (by omega) ⟨_, by rw [htk, List.foldl_append, List.foldl_cons, List.foldl_nil, ← hm, hls], by omega, hB, hBA, hF.sub _ rfl⟩)
      · have hls : lstL m (lc9, dd) = m := by cases lc9 <;> first | (exfalso; exact hq hry.1) | (simp only [lstL]; omega)
        refine wp_rs fun K22 hK22 => ?_
        refine s_val hF (x_fa0 fa90_0 rfl) (by decide) fun a hF => ?_
        refine s_val hF (x_fa0 fa27_0 rfl) (by decide) fun a hF => ?_
        refine s_val hF (x_load rfl (m_load flat3 (m5.cell (j := 0) rfl))) (by decide) fun a hF => ?_
        refine s_val hF (x_eql (b := false) (decide_eq_false (show ¬ y.k = 1 from hq)) rfl rfl) (by decide) fun a hF => ?_
        refine s_val hF (x_move rfl) (by decide) fun a hF => ?_
        refine s_grdn 20 hF rfl rfl (by decide) fun a hF => ?_
        refine s_grdn 20 hF rfl rfl (by decide) fun a hF => ?_
        refine s_grdn 20 hF rfl rfl (by decide) fun a hF => ?_
        refine s_grdn 20 hF rfl rfl (by decide) fun a hF => ?_
        refine s_grdn 20 hF rfl rfl (by decide) fun a hF => ?_
        refine s_grdn 20 hF rfl rfl (by decide) fun a hF => ?_
        refine s_val hF (x_pick (b := false) rfl rfl) (by decide) fun a hF => ?_
        refine s_end (hK22 _ _ ?_)
        refine wp_if hF rfl ?_
        refine wp_skip (hK12 _ _ ?_)
        refine wp_region_lit ?_
        refine s_val hF (x_addn (i + 1) (by omega) (by omega) rfl rfl) (by decide) fun a hF => ?_
        refine s_val hF (x_move rfl) (by decide) fun a hF => ?_
        refine s_end (hK' _ _ (by omega) ⟨_, by rw [htk, List.foldl_append, List.foldl_cons, List.foldl_nil, ← hm, hls], by omega, hB, hBA, hF.sub _ rfl⟩)
    · obtain rfl : i = es9.length := by omega
      rw [List.take_of_length_le (by omega), leaves_loose c 0 0 (by decide)] at hm
      have hnn := c.ess.loose_nn 0
      refine wp_exit (hK8 _ _ ?_)
      refine wp_rs fun K23 hK23 => ?_
      refine s_val hF (x_move rfl) (by decide) fun a hF => ?_
      refine s_val hF (x_assign rfl) (by decide) fun a hF => ?_
      refine s_end (hK23 _ _ ?_)
      have hz : c.looseR = m := by rw [CT.looseR, if_pos hk1]; omega
      refine wp_ret (res_slot hF rfl rfl ⟨by rw [hz], hB⟩)

set_option maxRecDepth 100000 in
set_option maxHeartbeats 400000 in
theorem rMentions39 (c : CT) (x : C8) (s : ByteArray) (w0 : World) (hx : RC w0 (fun k => k < w0.heap.size) c x) : Calls Try.prog 39 #[tv x, .string s] w0 fun e w' => e = .returned (.bool (c.menR s)) ∧ Below w0.heap.size w0 w' := by
  have hB := Below.refl w0.heap.size w0
  have sB := hB.size
  refine calls_fs 33 [(0, tv x), (1, .string s)] Try.func39 rfl rfl rfl rfl rfl fun a hF => ?_
  refine wp_rs fun K1 hK1 => ?_
  refine s_box (tc x) hF (by decide) rfl rfl fun w2 b2 a eb2 m2 B3 zb2 hF => ?_
  have sB3 := B3.size
  have hB := hB.trans (B3.mono hB.size)
  refine s_val hF (x_assign rfl) (by decide) fun a hF => ?_
  refine s_end (hK1 _ _ ?_)
  refine wp_seq_k fun K2 hK2 => ?_
  rcases (show ¬ c.ok ∨ c.ok by by_cases h : c.ok <;> simp [h]) with hk1 | hk1
  · skip
    refine wp_rs fun K4 hK4 => ?_
    refine s_val hF (x_ldW wide27 m2 rfl rfl) (by decide) fun a hF => ?_
    refine s_callB [_] hF (enters_of Try.func14 (by kernel_rfl) rfl) rfl (by decide) ((TooGreat14 c x w2 (hx.bel hB)).mono fun e w' h => ⟨by rw [h.1, decide_eq_true hk1], h.2⟩) fun w4 a B5 hF => ?_
    have sB5 := B5.size
    have hB := hB.trans (B5.mono hB.size)
    have m2 := m2.old B5
    refine s_end (hK4 _ _ ?_)
    refine wp_if hF rfl ?_
    refine wp_rs fun K5 hK5 => ?_
    refine s_val hF (x_assign rfl) (by decide) fun a hF => ?_
    refine s_end (hK5 _ _ ?_)
    have hz : c.menR s = false := by unfold CT.menR; rw [decide_eq_false hk1]; rfl
    refine wp_ret (then_ret (res_slot hF rfl rfl ⟨by rw [hz], hB⟩))
  · skip
    refine wp_rs fun K6 hK6 => ?_
    refine s_val hF (x_ldW wide27 m2 rfl rfl) (by decide) fun a hF => ?_
    refine s_callB [_] hF (enters_of Try.func14 (by kernel_rfl) rfl) rfl (by decide) ((TooGreat14 c x w2 (hx.bel hB)).mono fun e w' h => ⟨by rw [h.1, decide_eq_false (fun h => h hk1)], h.2⟩) fun w6 a B7 hF => ?_
    have sB7 := B7.size
    have hB := hB.trans (B7.mono hB.size)
    have m2 := m2.old B7
    refine s_end (hK6 _ _ ?_)
    refine wp_if hF rfl ?_
    refine wp_skip (hK2 _ _ ?_)
    refine wp_rs fun K7 hK7 => ?_
    refine s_val hF (x_assign rfl) (by decide) fun a hF => ?_
    refine s_end (hK7 _ _ ?_)
    refine wp_seq_k fun K8 hK8 => ?_
    refine wp_rs fun K9 hK9 => ?_
    refine s_val hF (x_ldW wide27 m2 rfl rfl) (by decide) fun a hF => ?_
    refine s_call (R := fun u w' => ((∃ o' es', w'.ownsRow w0.heap.size 90 9 u es'.length (es'.flatMap enc9) ∧ (∀ j, u.ownBlock = some j → j = o') ∧ ((o' = b2 ∨ w6.heap.size ≤ o') ∧ o' < w'.heap.size) ∧ LTw w0 es' ([] ++ c.leaves 0))) ∧ Ktw b2 b2 w6 w') hF [_, _, _] (enters_of Try.func80 (by kernel_rfl) rfl) rfl (by decide) (ends80 w0 w0.heap.size (c.size + 1) c x (by omega) hx 0 nilS b2 [] [] w6 (by decide) (by have := hk1.2; omega) (by have := hk1.1; simp; omega) hB hB.size (by omega) (by omega) (World.ownsRow_nil _ _ _ _) (fun j h => by cases h) (LTw.nil _)) ?_
    rintro v10 w8 a ⟨⟨o9, es9, hO9, _, _, hLT⟩, k9⟩ hF
    have sk9 := k9.size
    have hB := k9.under hB (by omega)
    rw [List.nil_append] at hLT
    have hR9 := Rd.own hO9
    have hl9 := hLT.1
    have hl8 := c.leaves_len 0
    have hk2 := hk1.1
    obtain ⟨a10, c10, hv10, _⟩ := hR9.form
    subst hv10
    refine s_val hF (x_len Try.underlying87 rfl) (by decide) fun a hF => ?_
    refine s_val hF (x_move rfl) (by decide) fun a hF => ?_
    refine s_end (hK9 _ _ ?_)
    refine wp_block ?_
    refine wp_up es9.length (fun i a w => ∃ b, b = ((c.leaves 0).take i).any (fun l => isC s l.1) ∧ Below w0.heap.size w0 w ∧ Below w8.heap.size w8 w ∧ Fs 33 a [(1, .string s), (5, .bool b), (11, .slice a10 es9.length c10), (12, .int .i64 (es9.length : Int)), (13, .int .i64 (i : Int))]) ⟨false, by simp, hB, Below.refl _ _, hF.sub _ rfl⟩ ?_
    repeat clear hF
    clear hB
    rintro i a w hi ⟨bb, hbb, hB, hBA, hF⟩ K' hK'
    have sB := hB.size
    have sBA := hBA.size
    refine wp_rs fun K10 hK10 => ?_
    refine s_val hF (x_lss (b := decide (i < es9.length)) (decide_eq_decide.2 (by omega)) rfl rfl) (by decide) fun a hF => ?_
    refine s_end (hK10 _ _ ?_)
    refine wp_seq_k fun K11 hK11 => ?_
    refine wp_iff hF rfl (fun hc14 => ?_) (fun hc14 => ?_)
    · obtain ⟨b9, off9, c9, e9, hve, he9, hrow⟩ := rd_row9 hR9 (i := i) (by omega)
      cases hve
      obtain ⟨y, dd⟩ := e9
      obtain ⟨⟨lc9, ld9⟩, hlf⟩ : ∃ l, (c.leaves 0)[i]? = some l := ⟨_, List.getElem?_eq_getElem (by omega)⟩
      obtain ⟨hry, hdd⟩ := hLT.2 i _ _ he9 hlf
      simp only at hry hdd
      subst hdd
      have hge := c.leaves_ge 0 _ (List.mem_of_getElem? hlf)
      simp only at hge
      have htk := take_snoc hlf
      refine wp_skip (hK11 _ _ ?_)
      refine wp_seq_k fun K12 hK12 => ?_
      refine wp_block ?_
      refine wp_rs fun K13 hK13 => ?_
      refine s_val hF (x_ixa rfl rfl (m_ixsK i Try.underlying87 el87.size rfl (by omega))) (by decide) fun a hF => ?_
      refine s_val hF (x_ldA wide90 (hrow _ hBA) rfl rfl) (by decide) fun a hF => ?_
      refine s_alloc hF (by decide) zero90 fun w10 b7 a eb7 m7 B11 zb7 hF => ?_
      have sB11 := B11.size
      have hB := hB.trans (B11.mono hB.size)
      have hBA := hBA.trans (B11.mono hBA.size)
      refine s_putW hF rfl rfl (size_wide wide90) m7 rfl (one9 hry.one) fun w14 m7 o15 => ?_
      have so15 := o15.size
      have hB := hB.trans (o15.below (by omega))
      have hBA := hBA.trans (o15.below (by omega))
      refine s_end (hK13 _ _ ?_)
      rcases (show bb = true ∨ (bb = false ∧ y.k = 7 ∧ y.s = s) ∨ (bb = false ∧ y.k = 7 ∧ ¬ y.s = s) ∨ (bb = false ∧ y.k ≠ 7) by cases bb <;> by_cases h1 : y.k = 7 <;> by_cases h2 : y.s = s <;> simp [h1, h2]) with hq | hq | hq | hq
      · obtain rfl : bb = true := hq
        have han : (((c.leaves 0).take (i + 1)).any fun l => isC s l.1) = true := by rw [htk, List.any_append, ← hbb]; rfl
        refine wp_region_lit ?_
        refine s_val hF (x_move rfl) (by decide) fun a hF => ?_
        refine s_val hF (x_move rfl) (by decide) fun a hF => ?_
        refine s_grdn 18 hF rfl rfl (by decide) fun a hF => ?_
        refine s_grdn 18 hF rfl rfl (by decide) fun a hF => ?_
        refine s_grdn 18 hF rfl rfl (by decide) fun a hF => ?_
        refine s_grdn 18 hF rfl rfl (by decide) fun a hF => ?_
        refine s_grdn 18 hF rfl rfl (by decide) fun a hF => ?_
        refine s_grdu 23 hF rfl rfl (by decide) fun a hF => ?_
        refine s_grdu 23 hF rfl rfl (by decide) fun a hF => ?_
        refine s_grdu 23 hF rfl rfl (by decide) fun a hF => ?_
        refine s_grdu 23 hF rfl rfl (by decide) fun a hF => ?_
        refine s_grdu 23 hF rfl rfl (by decide) fun a hF => ?_
        refine s_grdn 18 hF rfl rfl (by decide) fun a hF => ?_
        refine s_val hF (x_pick (b := true) rfl rfl) (by decide) fun a hF => ?_
        refine s_val hF (x_assign rfl) (by decide) fun a hF => ?_
        refine s_end (hK12 _ _ ?_)
        refine wp_region_lit ?_
        refine s_val hF (x_addn (i + 1) (by omega) (by omega) rfl rfl) (by decide) fun a hF => ?_
        refine s_val hF (x_move rfl) (by decide) fun a hF => ?_
        refine s_end (hK' _ _ (by omega) ⟨_, han.symm, hB, hBA, hF.sub _ rfl⟩)
      · obtain ⟨s9, ls9, m9_, rfl⟩ := hry.cst_of hq.2.1
        have hs9 : y.s = s9 := hry.2.1
        obtain rfl : bb = false := hq.1
        have han : (((c.leaves 0).take (i + 1)).any fun l => isC s l.1) = true := by rw [htk, List.any_append, ← hbb]; simp [isC, ← hs9, hq.2.2]
        refine wp_region_lit ?_
        refine s_val hF (x_move rfl) (by decide) fun a hF => ?_
        refine s_val hF (x_move rfl) (by decide) fun a hF => ?_
        refine s_grd 18 hF rfl rfl rfl ?_
        refine s_val hF (x_fa0 fa90_0 rfl) (by decide) fun a hF => ?_
        refine s_grd 18 hF rfl rfl rfl ?_
        refine s_val hF (x_fa0 fa27_0 rfl) (by decide) fun a hF => ?_
        refine s_grd 18 hF rfl rfl rfl ?_
        refine s_val hF (x_load rfl (m_load flat3 (m7.cell (j := 0) rfl))) (by decide) fun a hF => ?_
        refine s_grd 18 hF rfl rfl rfl ?_
        refine s_val hF (x_eql (b := true) (decide_eq_true (show y.k = 7 from hq.2.1)) rfl rfl) (by decide) fun a hF => ?_
        refine s_grd 18 hF rfl rfl rfl ?_
        refine s_val hF (x_move rfl) (by decide) fun a hF => ?_
        refine s_grd 23 hF rfl rfl rfl ?_
        refine s_val hF (x_fa0 fa90_0 rfl) (by decide) fun a hF => ?_
        refine s_grd 23 hF rfl rfl rfl ?_
        refine s_val hF (x_fa0 fa27_2 rfl) (by decide) fun a hF => ?_
        refine s_grd 23 hF rfl rfl rfl ?_
        refine s_val hF (x_load rfl (m_load flat9 (m7.cell (j := 2) rfl))) (by decide) fun a hF => ?_
        refine s_grd 23 hF rfl rfl rfl ?_
        refine s_val hF (x_move rfl) (by decide) fun a hF => ?_
        refine s_grd 23 hF rfl rfl rfl ?_
        refine s_val hF (x_eqS (b := true) (decide_eq_true hq.2.2) rfl rfl) (by decide) fun a hF => ?_
        refine s_grd 18 hF rfl rfl rfl ?_
        refine s_val hF (x_pick (b := true) rfl rfl) (by decide) fun a hF => ?_
        refine s_val hF (x_pick (b := false) rfl rfl) (by decide) fun a hF => ?_
        refine s_val hF (x_assign rfl) (by decide) fun a hF => ?_
        refine s_end (hK12 _ _ ?_)
        refine wp_region_lit ?_
        refine s_val hF (x_addn (i + 1) (by omega) (by omega) rfl rfl) (by decide) fun a hF => ?_
        refine s_val hF (x_move rfl) (by decide) fun a hF => ?_
        refine s_end (hK' _ _ (by omega) ⟨_, han.symm, hB, hBA, hF.sub _ rfl⟩)
      · obtain ⟨s9, ls9, m9_, rfl⟩ := hry.cst_of hq.2.1
        have hs9 : y.s = s9 := hry.2.1
        obtain rfl : bb = false := hq.1
        have han : (((c.leaves 0).take (i + 1)).any fun l => isC s l.1) = false := by rw [htk, List.any_append, ← hbb]; simp [isC, ← hs9, hq.2.2]
        refine wp_region_lit ?_
        refine s_val hF (x_move rfl) (by decide) fun a hF => ?_
        refine s_val hF (x_move rfl) (by decide) fun a hF => ?_
        refine s_grd 18 hF rfl rfl rfl ?_
        refine s_val hF (x_fa0 fa90_0 rfl) (by decide) fun a hF => ?_
        refine s_grd 18 hF rfl rfl rfl ?_
        refine s_val hF (x_fa0 fa27_0 rfl) (by decide) fun a hF => ?_
        refine s_grd 18 hF rfl rfl rfl ?_
        refine s_val hF (x_load rfl (m_load flat3 (m7.cell (j := 0) rfl))) (by decide) fun a hF => ?_
        refine s_grd 18 hF rfl rfl rfl ?_
        refine s_val hF (x_eql (b := true) (decide_eq_true (show y.k = 7 from hq.2.1)) rfl rfl) (by decide) fun a hF => ?_
        refine s_grd 18 hF rfl rfl rfl ?_
        refine s_val hF (x_move rfl) (by decide) fun a hF => ?_
        refine s_grd 23 hF rfl rfl rfl ?_
        refine s_val hF (x_fa0 fa90_0 rfl) (by decide) fun a hF => ?_
        refine s_grd 23 hF rfl rfl rfl ?_
        refine s_val hF (x_fa0 fa27_2 rfl) (by decide) fun a hF => ?_
        refine s_grd 23 hF rfl rfl rfl ?_
        refine s_val hF (x_load rfl (m_load flat9 (m7.cell (j := 2) rfl))) (by decide) fun a hF => ?_
        refine s_grd 23 hF rfl rfl rfl ?_
        refine s_val hF (x_move rfl) (by decide) fun a hF => ?_
        refine s_grd 23 hF rfl rfl rfl ?_
        refine s_val hF (x_eqS (b := false) (decide_eq_false hq.2.2) rfl rfl) (by decide) fun a hF => ?_
        refine s_grd 18 hF rfl rfl rfl ?_
        refine s_val hF (x_pick (b := true) rfl rfl) (by decide) fun a hF => ?_
        refine s_val hF (x_pick (b := false) rfl rfl) (by decide) fun a hF => ?_
        refine s_val hF (x_assign rfl) (by decide) fun a hF => ?_
        refine s_end (hK12 _ _ ?_)
        refine wp_region_lit ?_
        refine s_val hF (x_addn (i + 1) (by omega) (by omega) rfl rfl) (by decide) fun a hF => ?_
        refine s_val hF (x_move rfl) (by decide) fun a hF => ?_
        refine s_end (hK' _ _ (by omega) ⟨_, han.symm, hB, hBA, hF.sub _ rfl⟩)
      · obtain rfl : bb = false := hq.1
        have han : (((c.leaves 0).take (i + 1)).any fun l => isC s l.1) = false := by rw [htk, List.any_append, ← hbb]; cases lc9 <;> first | (exfalso; exact hq.2 hry.1) | simp [isC]
        refine wp_region_lit ?_
        refine s_val hF (x_move rfl) (by decide) fun a hF => ?_
        refine s_val hF (x_move rfl) (by decide) fun a hF => ?_
        refine s_grd 18 hF rfl rfl rfl ?_
        refine s_val hF (x_fa0 fa90_0 rfl) (by decide) fun a hF => ?_
        refine s_grd 18 hF rfl rfl rfl ?_
        refine s_val hF (x_fa0 fa27_0 rfl) (by decide) fun a hF => ?_
        refine s_grd 18 hF rfl rfl rfl ?_
        refine s_val hF (x_load rfl (m_load flat3 (m7.cell (j := 0) rfl))) (by decide) fun a hF => ?_
        refine s_grd 18 hF rfl rfl rfl ?_
        refine s_val hF (x_eql (b := false) (decide_eq_false (show ¬ y.k = 7 from hq.2)) rfl rfl) (by decide) fun a hF => ?_
        refine s_grd 18 hF rfl rfl rfl ?_
        refine s_val hF (x_move rfl) (by decide) fun a hF => ?_
        refine s_grdn 23 hF rfl rfl (by decide) fun a hF => ?_
        refine s_grdn 23 hF rfl rfl (by decide) fun a hF => ?_
        refine s_grdn 23 hF rfl rfl (by decide) fun a hF => ?_
        refine s_grdn 23 hF rfl rfl (by decide) fun a hF => ?_
        refine s_grdn 23 hF rfl rfl (by decide) fun a hF => ?_
        refine s_grd 18 hF rfl rfl rfl ?_
        refine s_val hF (x_pick (b := false) rfl rfl) (by decide) fun a hF => ?_
        refine s_val hF (x_pick (b := false) rfl rfl) (by decide) fun a hF => ?_
        refine s_val hF (x_assign rfl) (by decide) fun a hF => ?_
        refine s_end (hK12 _ _ ?_)
        refine wp_region_lit ?_
        refine s_val hF (x_addn (i + 1) (by omega) (by omega) rfl rfl) (by decide) fun a hF => ?_
        refine s_val hF (x_move rfl) (by decide) fun a hF => ?_
        refine s_end (hK' _ _ (by omega) ⟨_, han.symm, hB, hBA, hF.sub _ rfl⟩)
    · obtain rfl : i = es9.length := by omega
      rw [List.take_of_length_le (by omega)] at hbb
      refine wp_exit (hK8 _ _ ?_)
      refine wp_rs fun K14 hK14 => ?_
      refine s_val hF (x_move rfl) (by decide) fun a hF => ?_
      refine s_val hF (x_assign rfl) (by decide) fun a hF => ?_
      refine s_end (hK14 _ _ ?_)
      have hz : c.menR s = bb := by unfold CT.menR; rw [decide_eq_true hk1, ← hbb]; rfl
      refine wp_ret (res_slot hF rfl rfl ⟨by rw [hz], hB⟩)
end Go.Proofs.Ytgpciphjhnabcaa
