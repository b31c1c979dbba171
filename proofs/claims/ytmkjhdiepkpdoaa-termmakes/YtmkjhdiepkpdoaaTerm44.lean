/- Spine: what is applied in a term, and to what. -/
import Derived.Test.YtmkjhdiepkpdoaaSymL
import Derived.Test.YtmkjhdiepkpdoaaLevD
namespace Go.Proofs.Ytmkjhdiepkpdoaa
set_option maxRecDepth 100000
set_option maxHeartbeats 1600000
open Go.RowKit Go.Shelf
set_option linter.unusedVariables false
set_option linter.unusedSimpArgs false
def CT.spA : CT → List CT
 | .two k a b m => if k = 6 then b :: a.spA else []
 | _ => []
def CT.spH : CT → CT
 | .two k a b m => if k = 6 then a.spH else .two k a b m
 | c => c
theorem CT.spA_len : ∀ c : CT, c.spA.length + 1 = c.spL.length
 | .two k a b m => by
  by_cases hk : k = 6
  ·
   simp [CT.spA, CT.spL, hk, a.spA_len]
  ·
   simp [CT.spA, CT.spL, hk]
 | .lt .. => rfl
 | .var .. => rfl
 | .sort .. => rfl
 | .cst .. => rfl
 | .odd .. => rfl
theorem CT.spA_get : ∀ (c ci : CT) (i : Nat), c.spL[i]? = some ci → (ci.kd = 6 ∧ 0 < ci.kids.length) → ∃ b, ci.kids[1]? = some b ∧ c.spA[i]? = some b
 | .two k a b m, ci, 0, h, h2 => by
  simp [CT.spL] at h
  subst h
  obtain rfl : k = 6 := h2.1
  exact ⟨b, rfl, by simp [CT.spA]⟩
 | .two k a b m, ci, i + 1, h, h2 => by
  by_cases hk : k = 6
  ·
   subst hk
   simp [CT.spL] at h
   obtain ⟨q, h3, h4⟩ := CT.spA_get a ci i h h2
   exact ⟨q, h3, by simpa [CT.spA] using h4⟩
  ·
   simp [CT.spL, hk] at h
 | .lt a b c m, ci, i, h, h2 => by
  rcases i with _ | i
  ·
   simp [CT.spL] at h; subst h; simp [CT.kd] at h2
  ·
   simp [CT.spL] at h
 | .var n m, ci, i, h, h2 => by
  rcases i with _ | i
  ·
   simp [CT.spL] at h; subst h; simp [CT.kd] at h2
  ·
   simp [CT.spL] at h
 | .sort n m, ci, i, h, h2 => by
  rcases i with _ | i
  ·
   simp [CT.spL] at h; subst h; simp [CT.kd] at h2
  ·
   simp [CT.spL] at h
 | .cst .., ci, i, h, h2 => by
  rcases i with _ | i
  ·
   simp [CT.spL] at h; subst h; simp [CT.kd] at h2
  ·
   simp [CT.spL] at h
 | .odd n m, ci, i, h, h2 => by
  rcases i with _ | i
  ·
   simp [CT.spL] at h; subst h; simp [CT.kids] at h2
  ·
   simp [CT.spL] at h
theorem CT.spH_last : ∀ (c : CT), c.spL[c.spL.length - 1]? = some c.spH
 | .two k a b m => by
  by_cases hk : k = 6
  ·
   subst hk
   have h1 := a.spA_len
   have h2 := a.spH_last
   simp only [CT.spL, CT.spH, if_true, List.length_cons, Nat.add_sub_cancel]
   rw [show a.spL.length = a.spL.length - 1 + 1 by omega, List.getElem?_cons_succ]
   exact h2
  ·
   simp [CT.spL, CT.spH, hk]
 | .lt .. => rfl
 | .var .. => rfl
 | .sort .. => rfl
 | .cst .. => rfl
 | .odd .. => rfl
/-! ### The closure of spine -/
def spKx (w0 : World) (A : Nat → Prop) (c : CT) (b1 : Nat) (s : Nat × Bool) (W : World) : Prop := ∃ ci yi, c.spL[s.1]? = some ci ∧ Blk W b1 27 (tc yi) ∧ RC w0 A ci yi
def spStx (w0 : World) (A : Nat → Prop) (c : CT) (b1 : Nat) (s : Nat × Bool) (W : World) (s' : Nat × Bool) (W' : World) : Prop :=
 (s' = s ∧ Below W.heap.size W W') ∨ (s.2 = true ∧ s' = (s.1 + 1, false) ∧ Only b1 W W' ∧ spKx w0 A c b1 s' W')
def spEncx (w0 : World) (A : Nat → Prop) (c : CT) (s : Nat × Bool) (vs : List Value) : Prop := s.2 = false ∧ ∃ ci yi, c.spL[s.1]? = some ci ∧ vs = [tv yi] ∧ RC w0 A ci yi
theorem spine106x (w0 : World) (A : Nat → Prop) (hA : ∀ k, A k → k < w0.heap.size) (c : CT) (b1 : Nat) (h1 : w0.heap.size ≤ b1) :
    HandsX Try.prog 91 #[.pointer (some ⟨b1, 0, none⟩)] w0 (fun s => s = (0, false)) (spKx w0 A c b1) (spStx w0 A c b1) spRl (spEncx w0 A c) (spDn c) := by
  intro L J Jx hJK hJS hJxs hY s W hs hJ hB
  subst hs
  have hM := Below.refl w0.heap.size W
  refine calls_fs 14 [(0, .func (.yield L) #[] #[]), (1, .pointer (some ⟨b1, 0, none⟩))] Try.func91 rfl rfl rfl rfl rfl fun a F => ?_
  refine wp_block ?_
  refine wp_up (c.spL.length - 1) (fun i a w => J (i, false) w ∧ Below w0.heap.size W w ∧ Below w0.heap.size w0 w ∧ Fs 14 a [(0, .func (.yield L) #[] #[]), (1, .pointer (some ⟨b1, 0, none⟩))]) ⟨hJ, hM, hB, F⟩ ?_
  clear F hB hJ hM
  rintro i a w hi2 ⟨hJ, hM, hB, F⟩ K' hK'
  obtain ⟨ci, yi, hci, m1, hri⟩ := hJK _ _ hJ
  refine wp_seq_k fun _ K1 => ?_
  refine wp_rsI fun _ K2 => ?_
  refine i_val F (x_move rfl) rfl (by decide) fun a F => ?_
  refine i_val F (x_ldW wide27 m1 rfl rfl) rfl (by decide) fun a F => ?_
  refine i_yield (R := fun v W' => ∃ b, v = .bool b ∧ Below w0.heap.size w W' ∧ ((b = true ∧ J (i, true) W') ∨ (b = false ∧ Jx W'))) F [_] rfl rfl (by decide) ?_ ?_
  · refine YieldAt.mono (hY (i, false) w _ hJ ⟨rfl, ci, yi, hci, rfl, hri⟩ hB) ?_
    rintro en W' ⟨h4, ⟨rfl, s', hs', h5⟩ | ⟨rfl, h5⟩⟩
    · exact ⟨_, rfl, true, rfl, h4, .inl ⟨rfl, by rw [show s' = (i, true) from hs'] at h5; exact h5⟩⟩
    · exact ⟨_, rfl, false, rfl, h4, .inr ⟨rfl, h5⟩⟩
  rintro _ w5 a ⟨b5, rfl, hm5, h5⟩ F
  have s5 := hm5.size
  have hM5 := hM.trans hm5
  have hB5 := hB.trans hm5
  have sB5 := hB5.size
  rcases h5 with ⟨rfl, hJ5⟩ | ⟨rfl, hx5⟩
  · obtain ⟨cj, yj, hcj, m5, hrj⟩ := hJK _ _ hJ5
    obtain rfl : cj = ci := by
      simp only at hcj hci
      rw [hci] at hcj
      exact (Option.some.inj hcj).symm
    refine i_val F (x_move rfl) rfl (by decide) fun a F => ?_
    refine i_grd 6 F rfl rfl rfl ?_
    refine i_val F (x_ldW wide27 m5 rfl rfl) rfl (by decide) fun a F => ?_
    refine i_grd 6 F rfl rfl rfl ?_
    refine i_callB [_] F E52 rfl (by decide) (isApplied68 cj yj _ w0 w5 hrj) fun w8 a B8 F => ?_
    have s8 := B8.size
    have hB8 := hB5.trans (B8.mono (by omega))
    have hM8 := hM5.trans (B8.mono (by omega))
    have hJ8 := hJS _ _ _ _ hJ5 (.inl ⟨rfl, B8⟩)
    have m8 := m5.old B8
    refine i_val F (x_pick (b := true) rfl rfl) rfl (by decide) fun a F => ?_
    refine i_end (K2 _ _ ?_)
    refine wp_iff F rfl (fun hap => ?_) (fun hap => ?_)
    · obtain ⟨k0, hk0, hnx⟩ := (CT.spL_next c cj i hcj).1 hap
      obtain ⟨av, nv, cv, hts, hle9, hlen9, hcap, hkid⟩ := hrj.kids
      obtain ⟨xk, xn, xs, xl, xls, xts⟩ := yj
      simp only at hts
      subst hts
      obtain ⟨b9, off9, c9, y, kd, hve, hyk, hry, hAb, hbl, hrow⟩ := hkid.row (i := 0) hap.2
      cases hve
      obtain rfl : kd = k0 := by rw [hk0] at hyk; exact (Option.some.inj hyk).symm
      have hln : i + 1 < c.spL.length := (List.getElem?_eq_some_iff.1 hnx).1
      refine wp_skip (K1 _ _ ?_)
      refine wp_block ?_
      refine wp_region_lit ?_
      refine F.vl (x_fa0 fa27_5 rfl) fun a F => F.ld m8 flat25 rfl rfl fun a F => F.vl (x_ixa rfl rfl (m_ixsK 0 Try.underlying25 el25.size rfl (by omega))) fun a F => F.vl (x_ldA wide27 (hrow _ (hB8.block _ hbl)) rfl rfl) fun a F => ?_
      refine s_putW F rfl rfl (size_wide wide27) m8 rfl hry.one fun w9 m9 o9 => ?_
      have s9 := o9.size
      have hK9 : spKx w0 A c b1 (i + 1, false) w9 := ⟨kd, y, hnx, m9, hry⟩
      refine s_end (hK' _ _ (by omega) ⟨hJS _ _ _ _ hJ8 (.inr ⟨rfl, rfl, o9, hK9⟩), hM8.trans (o9.below h1), hB8.trans (o9.below h1), F.sub _ rfl⟩)
    · have hdn := (CT.spL_next c cj i hcj).2 hap
      refine wp_exit (exit_at ?_)
      exact post_normal (res_none F rfl ⟨⟨_, rfl⟩, hM8, .inl ⟨(i, true), ⟨rfl, hdn⟩, hJ8⟩⟩)
  · refine i_val F (x_move rfl) rfl (by decide) fun a F => ?_
    refine i_grdn 6 F rfl rfl (by decide) fun a F => ?_
    refine i_grdn 6 F rfl rfl (by decide) fun a F => ?_
    refine i_val F (x_pick (b := false) rfl rfl) rfl (by decide) fun a F => ?_
    refine i_end (K2 _ _ ?_)
    refine wp_if F rfl ?_
    refine wp_exit (exit_at ?_)
    exact post_normal (res_none F rfl ⟨⟨_, rfl⟩, hM5, .inr hx5⟩)
/-! ### Elements of a row, read and set -/
theorem fm8_take (ys : List C8) (k : Nat) (h : k ≤ ys.length) : (ys.flatMap tc).take (k * 8) = (ys.take k).flatMap tc := by
 have h1 : ys.flatMap tc = (ys.take k).flatMap tc ++ (ys.drop k).flatMap tc := by rw [← List.flatMap_append, List.take_append_drop]
 rw [h1]
 exact List.take_left' (by rw [fm8_len, List.length_take]; omega)
theorem fm8_drop (ys : List C8) (k : Nat) (h : k ≤ ys.length) : (ys.flatMap tc).drop (k * 8) = (ys.drop k).flatMap tc := by
 have h1 : ys.flatMap tc = (ys.take k).flatMap tc ++ (ys.drop k).flatMap tc := by rw [← List.flatMap_append, List.take_append_drop]
 rw [h1]
 exact List.drop_left' (by rw [fm8_len, List.length_take]; omega)
theorem fm8_split {cur : List Value} {ys : List C8} (h : cur.take (ys.length * 8) = ys.flatMap tc) : cur = ys.flatMap tc ++ cur.drop (ys.length * 8) := by rw [← h, List.take_append_drop]
theorem fm8_read {cur : List Value} {ys : List C8} {k : Nat} {y : C8} (h : cur.take (ys.length * 8) = ys.flatMap tc) (hy : ys[k]? = some y) : (cur.drop (0 + k * 8)).take (tc y).length = tc y := by
 have hk := (List.getElem?_eq_some_iff.1 hy).1
 have h2 : ys.drop k = y :: ys.drop (k + 1) := by
  rw [List.drop_eq_getElem_cons hk]
  rw [List.getElem?_eq_getElem hk] at hy
  rw [Option.some.inj hy]
 rw [Nat.zero_add, fm8_split h, List.drop_append_of_le_length (by rw [fm8_len]; omega), fm8_drop _ _ (by omega), h2, List.flatMap_cons, List.append_assoc]
 exact List.take_left' rfl
theorem fm8_set {cur : List Value} {ys : List C8} {k : Nat} {y : C8} (h : cur.take (ys.length * 8) = ys.flatMap tc) (hk : k < ys.length) (hl : ys.length * 8 ≤ cur.length) :
    (cur.take (0 + k * 8) ++ tc y ++ cur.drop (0 + k * 8 + (tc y).length)).take ((ys.set k y).length * 8) = (ys.set k y).flatMap tc ∧ (cur.take (0 + k * 8) ++ tc y ++ cur.drop (0 + k * 8 + (tc y).length)).length = cur.length := by
  have h8 := tc_len y
  refine ⟨?_, by simp only [List.length_append, List.length_take, List.length_drop, h8]; omega⟩
  have e1 : cur.take (0 + k * 8) = (ys.take k).flatMap tc := by
    rw [Nat.zero_add, ← fm8_take _ _ (by omega), ← h, List.take_take, Nat.min_eq_left (by omega)]
  have e2 : cur.drop (0 + k * 8 + (tc y).length) = (ys.drop (k + 1)).flatMap tc ++ cur.drop (ys.length * 8) := by
    rw [h8, show 0 + k * 8 + 8 = (k + 1) * 8 by omega]
    conv => lhs; rw [fm8_split h]
    rw [List.drop_append_of_le_length (by rw [fm8_len]; omega), fm8_drop _ _ (by omega)]
  rw [e1, e2, ← List.append_assoc, List.set_eq_take_append_cons_drop, if_pos hk, List.flatMap_append, List.flatMap_cons, ← List.append_assoc]
  exact List.take_left' (by simp only [List.length_append, fm8_len, List.length_take, List.length_drop, List.length_cons, h8]; omega)
/-- The last one, set. -/
theorem s_ownput {n : Nat} {l : List (Nat × Value)} {w : World} {a : Act} {ops : Array Oper} {Q : Exit → Act → World → Prop} {rest : List Oper} {ty : TypeId} {pos : String} {af : Array Edge} {x y : Operand} {base o m cap : Nat} {zs : List C8} {z0 z : C8} {ds : List Deferred} (F : Fs n a l (ds := ds)) (hx : ov l x = some (.pointer (some ⟨o, 0 + m * 8, none⟩))) (hy : ov l y = some (tv z)) (hm : zs.length = m)
    (hO : w.ownsRow base 27 8 (.slice (some ⟨o, 0, none⟩) (m + 1) cap) (m + 1) (zs.flatMap tc ++ tc z0)) (h1 : ∀ u ∈ tc z, u.oneCell' = true)
    (h : ∀ w', w'.ownsRow base 27 8 (.slice (some ⟨o, 0, none⟩) (m + 1) cap) (m + 1) (zs.flatMap tc ++ tc z) → Only o w w' → wpList Try.prog ops Q rest a w') : wpList Try.prog ops Q (⟨none, .store 27 x y, ty, pos, af, none⟩ :: rest) a w := by
  obtain ⟨q, cap9, cur, hv, hq, mq, hc1, hc2, hc3, hc4⟩ := own_blk hO (by omega)
  cases hv
  have hcz : (zs ++ [z0]).flatMap tc = zs.flatMap tc ++ tc z0 := by simp
  have hcu : cur.take ((zs ++ [z0]).length * 8) = (zs ++ [z0]).flatMap tc := by rw [hcz, ← hc4, List.length_append, hm]; rfl
  have hst := fm8_set (y := z) (k := m) hcu (by simp; omega) (by simp; omega)
  refine s_putP F hx hy (size_wide wide27) mq (by have := tc_len z; omega) h1 fun w' m' o' => h w' ?_ o'
  refine own_of hq m' hc1 hc2 (by rw [hst.2]; exact hc3) ?_
  have h3 := hst.1
  have h4 : (zs ++ [z0]).set m z = zs ++ [z] := by
    rw [List.set_append_right _ _ (by omega), show m - zs.length = 0 by omega]; rfl
  rw [h4] at h3
  simpa [hm] using h3
theorem rev_ext {α : Type} {xs ys : List α} (hl : ys.length = xs.length) (h : ∀ k, k < xs.length → ys[k]? = xs[xs.length - 1 - k]?) : ys = xs.reverse := by
 apply List.ext_getElem?
 intro k
 by_cases hk : k < xs.length
 ·
  rw [h k hk, List.getElem?_reverse hk]
 ·
  rw [List.getElem?_eq_none (by omega), List.getElem?_eq_none (by simp; omega)]
theorem swp_get {α : Type} {xs ys : List α} {i : Nat} {y z : α} (hl : ys.length = xs.length) (hi : 2 * i + 1 < xs.length) (h : ∀ k, k < xs.length → ys[k]? = if k < i ∨ xs.length - 1 - i < k then xs[xs.length - 1 - k]? else xs[k]?) (hy : ys[i]? = some y) (hz : ys[xs.length - 1 - i]? = some z) :
    ∀ k, k < xs.length → ((ys.set i z).set (xs.length - 1 - i) y)[k]? = if k < i + 1 ∨ xs.length - 1 - (i + 1) < k then xs[xs.length - 1 - k]? else xs[k]? := by
  intro k hk
  have h1 := h i (by omega)
  have h2 := h (xs.length - 1 - i) (by omega)
  rw [if_neg (by omega)] at h1 h2
  by_cases e1 : k = xs.length - 1 - i
  · subst e1
    rw [List.getElem?_set_self (by simp; omega), if_pos (by omega), show xs.length - 1 - (xs.length - 1 - i) = i by omega, ← h1, hy]
  · rw [List.getElem?_set_ne (by omega)]
    by_cases e2 : k = i
    · subst e2
      rw [List.getElem?_set_self (by omega), if_pos (by omega), ← h2, hz]
    · rw [List.getElem?_set_ne (by omega), h k hk]
      by_cases e3 : k < i ∨ xs.length - 1 - i < k
      · rw [if_pos e3, if_pos (by omega)]
      · rw [if_neg e3, if_neg (by omega)]
theorem Reverse69 (w0 : World) (base o : Nat) (a0 : Option Addr) (cap : Nat) (xs : List C8) (hO0 : w0.ownsRow base 27 8 (.slice a0 xs.length cap) xs.length (xs.flatMap tc)) (hat : ∀ j, (Value.slice a0 xs.length cap).ownBlock = some j → j = o) (h1 : ∀ x ∈ xs, ∀ u ∈ tc x, u.oneCell' = true) (hn : xs.length ≤ 100000000) : Calls Try.prog 53 #[.slice a0 xs.length cap] w0 fun e w' => ∃ u, e = .returned u ∧ w'.ownsRow base 27 8 (.slice a0 xs.length cap) xs.length (xs.reverse.flatMap tc) ∧ Ktw o o w0 w' := by
 have hK := Ktw.refl o o w0
 have sK := hK.size
 refine calls_fs 28 [(0, .slice a0 xs.length cap)] Try.func53 rfl rfl rfl rfl rfl fun a F => ?_
 refine wp_rs fun _ K1 => F.mv rfl fun a F => F.vl (x_len Try.underlying25 rfl) fun a F => F.vl (x_sub (by omega) (by omega) rfl rfl) fun a F => F.sg rfl fun a F => F.sg rfl fun a F => ?_
 refine s_end (K1 _ _ ?_)
 refine wp_block ?_
 have he0 : (xs.length : Int) - 1 = (xs.length : Int) - 1 - ((0 : Nat) : Int) := by omega
 rw [he0] at F
 refine wp_up (xs.length / 2) (fun i a w => ∃ ys : List C8, w.ownsRow base 27 8 (.slice a0 xs.length cap) xs.length (ys.flatMap tc) ∧ ys.length = xs.length ∧ (∀ k, k < xs.length → ys[k]? = if k < i ∨ xs.length - 1 - i < k then xs[xs.length - 1 - k]? else xs[k]?) ∧ (∀ x ∈ ys, ∀ u ∈ tc x, u.oneCell' = true) ∧ Ktw o o w0 w ∧ Fs 28 a [(0, .slice a0 xs.length cap), (2, .int .i64 (i : Int)), (3, .int .i64 ((xs.length : Int) - 1 - (i : Int)))]) ⟨xs, hO0, rfl, fun k hk => by rw [if_neg (by omega)], h1, hK, F.sub _ rfl⟩ ?_
 repeat clear F
 clear hK
 rintro i a w hi ⟨ys, hO, hyl, hys, h1y, hK, F⟩ K' hK'
 have sK := hK.size
 refine wp_seq_k fun _ K2 => ?_
 refine wp_rs fun _ K3 => F.mv rfl fun a F => F.mv rfl fun a F => F.vl (x_lss (b := decide (i < xs.length / 2)) (decide_eq_decide.2 (by omega)) rfl rfl) fun a F => ?_
 refine s_end (K3 _ _ ?_)
 refine wp_iff F rfl (fun hc9 => ?_) (fun hc9 => ?_)
 ·
  obtain ⟨q, cap9, cur, hv, hq, mq, hc1, hc2, hc3, hc4⟩ := own_blk hO (by omega)
  cases hv
  obtain rfl := hat q rfl
  rw [← hyl] at hc4
  have hql := mq.lt
  obtain ⟨y1, hy1⟩ : ∃ y, ys[i]? = some y := ⟨_, List.getElem?_eq_getElem (by omega)⟩
  obtain ⟨y2, hy2⟩ : ∃ y, ys[xs.length - 1 - i]? = some y := ⟨_, List.getElem?_eq_getElem (by omega)⟩
  have hsw := swp_get hyl (by omega) hys hy1 hy2
  have hr1 := fm8_read hc4 hy1
  have hr2 := fm8_read hc4 hy2
  have hs1 := fm8_set (y := y2) (k := i) hc4 (by omega) (by omega)
  have h8 := tc_len y1
  have h82 := tc_len y2
  have hs2 := fm8_set (y := y1) (k := xs.length - 1 - i) hs1.1 (by simp; omega) (by rw [hs1.2]; simp; omega)
  have hx1 := h1y y1 (List.mem_of_getElem? hy1)
  have hx2 := h1y y2 (List.mem_of_getElem? hy2)
  refine wp_skip (K2 _ _ ?_)
  refine wp_seq_k fun _ K4 => ?_
  refine wp_block ?_
  refine dk2_one (q) (q) (ops := regOps Try.f53 3) (N := 16) (by kernel_rfl) wide_orders (by kernel_rfl) fun w2 hw2 B3 hS K5 hK5 => ?_
  have zw2 : w2.heap.size = w.heap.size := by rw [hw2]
  have sB3 := B3.size
  have hK := hK.below B3
  have mq := mq.old B3
  have mq_d := mq
  have hK_d := hK
  refine F.dv 0 14 (.move (.tmp 0)) hS (fun W hW => x_move rfl) fun a F => F.dv 1 15 (.move (.tmp 2)) hS (fun W hW => x_move rfl) fun a F => F.dv 2 16 (.move (.tmp 0)) hS (fun W hW => x_move rfl) fun a F => F.dv 3 17 (.move (.tmp 3)) hS (fun W hW => x_move rfl) fun a F => F.dv 4 18 (.move (.tmp 0)) hS (fun W hW => x_move rfl) fun a F => F.dv 5 19 (.move (.tmp 3)) hS (fun W hW => x_move rfl) fun a F => F.dv 6 20 (.indexAddr 25 (.tmp 18) (.tmp 19)) hS (fun W hW => x_ixa rfl rfl (m_ixsK (xs.length - 1 - i) Try.underlying25 el25.size (by omega) (by omega))) fun a F => F.dv 8 22 (.move (.tmp 0)) hS (fun W hW => x_move rfl) fun a F => F.dv 9 23 (.move (.tmp 2)) hS (fun W hW => x_move rfl) fun a F => F.dv 10 24 (.indexAddr 25 (.tmp 22) (.tmp 23)) hS (fun W hW => x_ixa rfl rfl (m_ixsK (i) Try.underlying25 el25.size rfl (by omega))) fun a F => ?_
  refine d_two 7 11 (by kernel_rfl) ?_ ?_
  ·
   refine d_op 7 (some 21) (.load 27 (.tmp 20)) (by kernel_rfl) fun ty pos af => ?_
   refine F.vl (x_load rfl (m_loadP (vs := tc y2) wide27 mq hr2)) fun a F => ?_
   refine s_end ⟨hS, ?_⟩
   refine d1 11 (some 25) (.load 27 (.tmp 24)) fun ty pos af => ?_
   refine F.vl (x_load rfl (m_loadP (vs := tc y1) wide27 mq hr1)) fun a F => ?_
   refine s_end ⟨hS, ?_⟩
   refine F.dv 12 26 (.indexAddr 25 (.tmp 14) (.tmp 15)) hS (fun W hW => x_ixa rfl rfl (m_ixsK (i) Try.underlying25 el25.size rfl (by omega))) fun a F => ?_
   refine d1 13 none (.store 27 (.tmp 26) (.tmp 21)) fun ty pos af => ?_
   refine s_putP F rfl rfl (size_wide wide27) mq (by first | omega | (rw [hs1.2]; omega)) hx2 fun w4 mq o5 => ?_
   have so5 := o5.size
   have hK := hK.only o5 (by omega)
   have hS := hS.only o5 (by omega)
   refine s_end ⟨hS, ?_⟩
   refine F.dv 14 27 (.indexAddr 25 (.tmp 16) (.tmp 17)) hS (fun W hW => x_ixa rfl rfl (m_ixsK (xs.length - 1 - i) Try.underlying25 el25.size (by omega) (by omega))) fun a F => ?_
   refine d1 15 none (.store 27 (.tmp 27) (.tmp 25)) fun ty pos af => ?_
   refine s_putP F rfl rfl (size_wide wide27) mq (by first | omega | (rw [hs1.2]; omega)) hx1 fun w6 mq o7 => ?_
   have so7 := o7.size
   have hK := hK.only o7 (by omega)
   have hS := hS.only o7 (by omega)
   refine s_end ⟨hS, ?_⟩
   refine d_end (by kernel_rfl) (hK5 _ _ ?_)
   refine K4 _ _ ?_
   refine wp_region_lit ?_
   refine F.mv rfl fun a F => F.vl (x_addn (i + 1) (by omega) (by omega) rfl rfl) fun a F => F.mv rfl fun a F => F.vl (x_sub (by omega) (by omega) rfl rfl) fun a F => F.sg rfl fun a F => F.sg rfl fun a F => ?_
   have he3 : (xs.length : Int) - 1 - (i : Int) - 1 = (xs.length : Int) - 1 - ((i + 1 : Nat) : Int) := by omega
   rw [he3] at F
   refine s_end (hK' _ _ (by omega) ⟨(ys.set i y2).set (xs.length - 1 - i) y1, own_of hq mq hc1 hc2 (by rw [hs2.2, hs1.2]; exact hc3) (by have h3 := hs2.1; simp only [List.length_set, hyl] at h3; exact h3), by simp [hyl], hsw, fun x hx => by rcases List.mem_or_eq_of_mem_set hx with hx | rfl; (· rcases List.mem_or_eq_of_mem_set hx with hx | rfl; (· exact h1y x hx); exact hx2); exact hx1, hK, F.sub _ rfl⟩)
  ·
   refine d_op 11 (some 25) (.load 27 (.tmp 24)) (by kernel_rfl) fun ty pos af => ?_
   refine F.vl (x_load rfl (m_loadP (vs := tc y1) wide27 mq hr1)) fun a F => ?_
   refine s_end ⟨hS, ?_⟩
   refine d1 7 (some 21) (.load 27 (.tmp 20)) fun ty pos af => ?_
   refine F.vl (x_load rfl (m_loadP (vs := tc y2) wide27 mq hr2)) fun a F => ?_
   refine s_end ⟨hS, ?_⟩
   refine F.dv 12 26 (.indexAddr 25 (.tmp 14) (.tmp 15)) hS (fun W hW => x_ixa rfl rfl (m_ixsK (i) Try.underlying25 el25.size rfl (by omega))) fun a F => ?_
   refine d1 13 none (.store 27 (.tmp 26) (.tmp 21)) fun ty pos af => ?_
   refine s_putP F rfl rfl (size_wide wide27) mq (by first | omega | (rw [hs1.2]; omega)) hx2 fun w8 mq o9 => ?_
   have so9 := o9.size
   have hK := hK.only o9 (by omega)
   have hS := hS.only o9 (by omega)
   refine s_end ⟨hS, ?_⟩
   refine F.dv 14 27 (.indexAddr 25 (.tmp 16) (.tmp 17)) hS (fun W hW => x_ixa rfl rfl (m_ixsK (xs.length - 1 - i) Try.underlying25 el25.size (by omega) (by omega))) fun a F => ?_
   refine d1 15 none (.store 27 (.tmp 27) (.tmp 25)) fun ty pos af => ?_
   refine s_putP F rfl rfl (size_wide wide27) mq (by first | omega | (rw [hs1.2]; omega)) hx1 fun w10 mq o11 => ?_
   have so11 := o11.size
   have hK := hK.only o11 (by omega)
   have hS := hS.only o11 (by omega)
   refine s_end ⟨hS, ?_⟩
   refine d_end (by kernel_rfl) (hK5 _ _ ?_)
   refine K4 _ _ ?_
   refine wp_region_lit ?_
   refine F.mv rfl fun a F => F.vl (x_addn (i + 1) (by omega) (by omega) rfl rfl) fun a F => F.mv rfl fun a F => F.vl (x_sub (by omega) (by omega) rfl rfl) fun a F => F.sg rfl fun a F => F.sg rfl fun a F => ?_
   have he3 : (xs.length : Int) - 1 - (i : Int) - 1 = (xs.length : Int) - 1 - ((i + 1 : Nat) : Int) := by omega
   rw [he3] at F
   refine s_end (hK' _ _ (by omega) ⟨(ys.set i y2).set (xs.length - 1 - i) y1, own_of hq mq hc1 hc2 (by rw [hs2.2, hs1.2]; exact hc3) (by have h3 := hs2.1; simp only [List.length_set, hyl] at h3; exact h3), by simp [hyl], hsw, fun x hx => by rcases List.mem_or_eq_of_mem_set hx with hx | rfl; (· rcases List.mem_or_eq_of_mem_set hx with hx | rfl; (· exact h1y x hx); exact hx2); exact hx1, hK, F.sub _ rfl⟩)
 ·
  have hi2 : i = xs.length / 2 := by omega
  have hrev : ys = xs.reverse := rev_ext hyl (fun k hk => by rw [hys k hk]; by_cases e : k < i ∨ xs.length - 1 - i < k; (· rw [if_pos e]); rw [if_neg e, show xs.length - 1 - k = k by omega])
  rw [hrev] at hO
  refine wp_exit (exit_at ?_)
  exact post_normal (res_none F rfl ⟨_, rfl, hO, hK⟩)
end Go.Proofs.Ytmkjhdiepkpdoaa

namespace Go.Proofs.Ytmkjhdiepkpdoaa
set_option maxRecDepth 100000
set_option maxHeartbeats 1600000
open Go.RowKit Go.Shelf
set_option linter.unusedVariables false
set_option linter.unusedSimpArgs false
theorem CT.spL_size : ∀ (c : CT), c.spL.length ≤ c.size
 | .two k a b m => by
  have := a.spL_size
  have := b.size_pos
  by_cases hk : k = 6
  ·
   simp [CT.spL, hk, CT.size]; omega
  ·
   simp [CT.spL, hk, CT.size]
 | .lt .. => by simp [CT.spL, CT.size]
 | .var .. => by simp [CT.spL, CT.size]
 | .sort .. => by simp [CT.spL, CT.size]
 | .cst .. => by simp [CT.spL, CT.size]
 | .odd .. => by simp [CT.spL, CT.size]
theorem QT.rev {W : World} {A : Nat → Prop} {zs : List C8} {ps : List PT} (h : QT W A zs ps) : QT W A zs.reverse ps.reverse := by
 refine ⟨by simp [h.1], fun j z p e1 e2 => ?_⟩
 have hj : j < zs.length := by have := (List.getElem?_eq_some_iff.1 e1).1; simpa using this
 rw [List.getElem?_reverse hj] at e1
 rw [List.getElem?_reverse (by rw [← h.1]; exact hj), ← h.1] at e2
 exact h.2 _ z p e1 e2
def Hid (p : Prop) : Prop := p
def spN (s : Nat × Bool) : Nat := if s.2 then s.1 + 1 else s.1
/-- What holds between the rounds of Spine's loop. -/
structure SpI (w0 : World) (A : Nat → Prop) (c : CT) (b1 b2 b4 b5 b6 br p : Nat) (s : Nat × Bool) (W : World) : Prop where
 k : spKx w0 A c b1 s W
 m2 : Blk W b2 27 z8
 m4 : Blk W b4 63 [.pointer (some ⟨br, 0, none⟩)]
 hR : Room W br
 m5 : ∃ yh, Blk W b5 27 (tc yh) ∧ (s.2 = true → ∃ ch, c.spL[s.1]? = some ch ∧ RC w0 A ch yh)
 row : ∃ vv zs, W.ownsRow w0.heap.size 27 8 vv zs.length (zs.flatMap tc) ∧ (∀ j, vv.ownBlock = some j → p + 2 ≤ j) ∧ QT W (fun k => (((k < w0.heap.size ∧ A k) ∨ p + 2 ≤ k) ∧ vv.ownBlock ≠ some k) ∧ k < W.heap.size) zs ((c.spA.take (spN s)).map CT.ess) ∧ Blk W b6 25 [vv]
section
variable {w0 W W' : World} {A : Nat → Prop} {c : CT} {b1 b2 b4 b5 b6 br p : Nat} {s : Nat × Bool}
theorem spKx.old {b1 : Nat} (h : spKx w0 A c b1 s W) (hB : Below W.heap.size W W') : spKx w0 A c b1 s W' := let ⟨ci, yi, e1, e2, e3⟩ := h; ⟨ci, yi, e1, e2.old hB, e3⟩
theorem SpI.old (h : SpI w0 A c b1 b2 b4 b5 b6 br p s W) (hB : Below W.heap.size W W') : SpI w0 A c b1 b2 b4 b5 b6 br p s W' := by
 obtain ⟨h1, h2, h3, h4, ⟨yh, h5, h6⟩, vv, zs, h7, h8, h9, h10⟩ := h
 exact ⟨h1.old hB, h2.old hB, h3.old hB, h4.below hB, ⟨yh, h5.old hB, h6⟩, vv, zs, own_below h7 hB, h8, (h9.below hB).mono (fun k hk => ⟨hk.1, Nat.lt_of_lt_of_le hk.2 hB.size⟩), h10.old hB⟩
/-- A block that is none of its own. -/
theorem SpI.only {x : Nat} (h : SpI w0 A c b1 b2 b4 b5 b6 br p s W) (o : Only x W W') (hx : w0.heap.size ≤ x ∧ x < p + 2 ∧ x ≠ b2 ∧ x ≠ b4 ∧ x ≠ b5 ∧ x ≠ b6 ∧ x ≠ br) {s' : Nat × Bool} (hk : spKx w0 A c b1 s' W') (h5 : ∀ yh, (s.2 = true → ∃ ch, c.spL[s.1]? = some ch ∧ RC w0 A ch yh) → s'.2 = true → ∃ ch, c.spL[s'.1]? = some ch ∧ RC w0 A ch yh) (hN : spN s' = spN s) : SpI w0 A c b1 b2 b4 b5 b6 br p s' W' := by
 obtain ⟨g1, g2, g3, g4, ⟨yh, g5, g6⟩, vv, zs, g7, g8, g9, g10⟩ := h
 refine ⟨hk, g2.only o (by omega), g3.only o (by omega), g4.only o (by omega), ⟨yh, g5.only o (by omega), h5 yh g6⟩, vv, zs, own_only g7 o (fun e => by have := g8 _ e; omega), g8, ?_, g10.only o (by omega)⟩
 rw [hN]
 exact (g9.only o (fun k hk => by omega)).mono (fun k hk => ⟨hk.1, by rw [o.size]; exact hk.2⟩)
end
theorem spine67 (x : C8) (w0 : World) (h1x : ∀ u ∈ tc x, u.oneCell' = true) : Calls Try.prog 51 #[tv x] w0 fun e w' => ∃ v, e = .returned v ∧ (∃ b1, v = .func (.func 91) #[] #[.pointer (some ⟨b1, 0, none⟩)] ∧ w0.heap.size ≤ b1 ∧ Blk w' b1 27 (tc x)) ∧ Below w0.heap.size w0 w' := by
 have hB := Below.refl w0.heap.size w0
 have sB := hB.size
 refine calls_fs 4 [(0, tv x)] Try.func51 rfl rfl rfl rfl rfl fun a F => ?_
 refine wp_rs fun _ K1 => ?_
 refine s_box (tc x) F (by decide) rfl rfl fun w2 b1 a eb1 m1 B3 zb1 F => ?_
 have sB3 := B3.size
 have hB := bt hB B3
 refine F.sg rfl fun a F => ?_
 refine s_end (K1 _ _ ?_)
 refine wp_rs fun _ K2 => F.vl (x_mkf [_] rfl) fun a F => F.sg rfl fun a F => ?_
 refine s_end (K2 _ _ ?_)
 refine wp_ret (res_slot F rfl rfl ⟨_, rfl, ⟨b1, rfl, by omega, m1⟩, hB⟩)
theorem Spine27 (A : Nat → Prop) (c : CT) (x : C8) (w0 : World) (hA : ∀ k, A k → k < w0.heap.size) (hxA : RC w0 A c x) (hok : c.ok) : Calls Try.prog 21 #[tv x] w0 fun e w' => ∃ u, e = .returned u ∧ (∃ y v, u = .tuple #[tv y, v] ∧ RE w' (AS A w0.heap.size) c.spH.ess y ∧ RKE w' (AS A w0.heap.size) v (c.spA.reverse.map CT.ess)) ∧ Below w0.heap.size w0 w' := by
 have hx := hxA.mono hA
 have hsl := CT.spA_len c
 have hsz : c.spL.length ≤ 20000 := Nat.le_trans (CT.spL_size c) hok.1
 have hB := Below.refl w0.heap.size w0
 have sB := hB.size
 refine calls_fsM 37 [(0, tv x)] Try.func21 rfl rfl rfl rfl rfl fun a F => ?_
 refine wp_rs fun _ K1 => ?_
 refine s_box (tc x) F (by decide) rfl rfl fun w2 b1 a eb1 m1 B3 zb1 F => ?_
 have sB3 := B3.size
 have hB := bt hB B3
 refine s_alloc F (by decide) zero27 fun w4 b2 a eb2 m2 B5 zb2 F => ?_
 have sB5 := B5.size
 have hB := bt hB B5
 have m1 := m1.old B5
 refine F.sg rfl fun a F => ?_
 refine s_end (K1 _ _ ?_)
 refine wp_rs fun _ K2 => ?_
 refine s_callR (R := fun v w' => ∃ br, v = .pointer (some ⟨br, 0, none⟩) ∧ w4.heap.size ≤ br ∧ Blk w' br 102 [.int .i64 2147483647]) [] F E40 rfl (by decide) (newRoom56 w4) ?_
 rintro _ w6 a ⟨br, rfl, hbrw, mbr⟩ B7 F
 have sB7 := B7.size
 have hB := bt hB B7
 have m1 := m1.old B7
 have m2 := m2.old B7
 have hR : Room w6 br := ⟨_, mbr, by decide, by decide⟩
 have hbrl := hR.lt
 refine s_alloc1 F (by decide) zero64 rfl fun w8 b4 a eb4 m4 B9 zb4 F => ?_
 have sB9 := B9.size
 have hB := bt hB B9
 have m1 := m1.old B9
 have m2 := m2.old B9
 have hR := hR.below B9
 refine s_put F rfl rfl flat64 m4 (by first | (simp; done) | (simp [tc, lc]; done) | decide) rfl fun w10 m4 o11 => ?_
 have so11 := o11.size
 have hB := hB.trans (o11.below (by omega))
 have m1 := m1.only o11 (by omega)
 have m2 := m2.only o11 (by omega)
 have hR := hR.only o11 (by omega)
 refine s_end (K2 _ _ ?_)
 refine wp_seq_k fun _ K3 => ?_
 refine wp_rs fun _ K4 => F.vl (x_ldW wide27 m1 rfl rfl) fun a F => ?_
 refine s_callB [_] F E50 rfl (by decide) ((isGreat66 c x w10 (hx.bel hB)).mono fun e w' h => ⟨by rw [h.1, decide_eq_false (fun h => h hok)], h.2⟩) fun w12 a B13 F => ?_
 have sB13 := B13.size
 have hB := bt hB B13
 have m1 := m1.old B13
 have m2 := m2.old B13
 have m4 := m4.old B13
 have hR := hR.below B13
 refine s_end (K4 _ _ ?_)
 refine wp_if F rfl ?_
 refine wp_skip (K3 _ _ ?_)
 refine wp_rs fun _ K5 => ?_
 refine s_alloc F (by decide) zero27 fun w14 b5 a eb5 m5 B15 zb5 F => ?_
 have sB15 := B15.size
 have hB := bt hB B15
 have m1 := m1.old B15
 have m2 := m2.old B15
 have m4 := m4.old B15
 have hR := hR.below B15
 refine s_end (K5 _ _ ?_)
 refine wp_rs fun _ K6 => ?_
 refine s_alloc1 F (by decide) zero25 rfl fun w16 b6 a eb6 m6 B17 zb6 F => ?_
 have sB17 := B17.size
 have hB := bt hB B17
 have m1 := m1.old B17
 have m2 := m2.old B17
 have m4 := m4.old B17
 have m5 := m5.old B17
 have hR := hR.below B17
 refine s_end (K6 _ _ ?_)
 refine wp_seq_k fun _ K7 => ?_
 refine wp_rs fun _ K8 => F.vl (x_ldW wide27 m1 rfl rfl) fun a F => ?_
 refine s_callR (R := fun v w' => ∃ b1, v = .func (.func 91) #[] #[.pointer (some ⟨b1, 0, none⟩)] ∧ w16.heap.size ≤ b1 ∧ Blk w' b1 27 (tc x)) [_] F E51 rfl (by decide) (spine67 x w16 hx.one) ?_
 rintro v15 w18 a ⟨bx, hve, hbx, mx⟩ B19 F
 have sB19 := B19.size
 have hB := bt hB B19
 have m2 := m2.old B19
 have m4 := m4.old B19
 have m5 := m5.old B19
 have m6 := m6.old B19
 have hR := hR.below B19
 subst hve
 refine s_end (K8 _ _ ?_)
 refine wp_block ?_
 have sD := hB.size
 obtain ⟨p, hp⟩ : ∃ p, p = w18.heap.size := ⟨_, rfl⟩
 have hm2l := m2.lt
 have hm4l := m4.lt
 have hm5l := m5.lt
 have hm6l := m6.lt
 have hmxl := mx.lt
 have hbd : w0.heap.size ≤ b2 ∧ b2 < br ∧ br < b4 ∧ b4 < b5 ∧ b5 < b6 ∧ b6 < bx ∧ bx < p := ⟨by omega, by omega, by omega, by omega, by omega, by omega, by omega⟩
 refine wp_rangeX (w0 := w0) F rfl E91 hB (spine106x w0 A hA c bx (by omega)) (by decide) (by rintro s vs ⟨_, ci, yi, _, rfl, _⟩; rfl)
  (fun s W s' W' hs => by rcases hs with ⟨rfl, hB⟩ | ⟨_, rfl, ho, _⟩; (· exact ⟨hB.size, fun k hk hl => hB.block k hl⟩); exact ⟨Nat.le_of_eq ho.size.symm, fun k hk hl => ho.block k (by omega)⟩)
  (SpI w0 A c bx b2 b4 b5 b6 br p) (fun _ _ => False) (fun s W h => h.k)
  (fun s W s' W' h hs hz => by rcases hs with ⟨rfl, hB⟩ | ⟨h2, rfl, ho, hk⟩; (· exact h.old hB); exact h.only ho (by omega) hk (fun yh _ h => by cases h) (by unfold spN; rw [if_pos h2]; rfl))
  (fun s W W' h hB => h.old hB) (fun s W W' h o => h.only o (by omega) (let ⟨ci, yi, e1, e2, e3⟩ := h.k; ⟨ci, yi, e1, e2.only o (by omega), e3⟩) (fun _ h => h) rfl) (fun _ _ _ h _ => h.elim) (fun _ _ _ h _ => h.elim) (0, false) rfl
  ⟨⟨c, x, c.spL_zero, mx, hxA⟩, m2, m4, hR, ⟨⟨0, 0, emptyB, (0, 0, nilS), nilS, nilS⟩, m5, fun h => by cases h⟩, nilS, [], World.ownsRow_nil _ _ _ _, (fun j h => by cases h), by rw [show spN (0, false) = 0 from rfl, List.take_zero]; exact QT.nil, m6⟩ ?_ ?_ ?_
 ·
  rintro L s W a vs hL hv hI hWs hBr F K hK
  rw [← hp] at hWs
  obtain ⟨hfl, ci, yi, hci, rfl, hri⟩ := hv
  obtain ⟨i, fl⟩ := s
  simp only at hfl hci
  subst hfl
  obtain ⟨⟨cj, yj, hcj, m1, hrj⟩, m2, m4, hR, ⟨yh, m5, _⟩, vv, zs, hO, hOb, hP, m6⟩ := hI
  have hN0 : spN (i, false) = i := rfl
  rw [hN0] at hP
  have hBe := Below.refl w0.heap.size W
  have hD9 := Kd.refl p W
  have sBr := hBr.size
  have sBe := hBe.size
  obtain ⟨top, htop⟩ : ∃ h, h = W.heap.size := ⟨_, rfl⟩
  rw [← htop] at hP
  have hPl := hP.1
  rw [List.length_map, List.length_take] at hPl
  have hOt : ∀ j, vv.ownBlock = some j → p + 2 ≤ j ∧ j < top := fun j h => ⟨hOb j h, by rw [htop]; exact (hO.lt j h).2⟩
  obtain ⟨avv, cvv, hvv, _⟩ := (Rd.own hO).form
  subst hvv
  have h1y := hri.one
  have hil := (List.getElem?_eq_some_iff.1 hci).1
  have hPl2 : zs.length = i := by omega
  refine wpI_r (by repeat' first | exact rndPostX.calm | exact false.calm | refine Calm.then ?_ _ | refine Calm.block ?_ _) rfl ?_
  refine s_alloc F (by decide) zero27 fun w20 b7 a eb7 m7 B21 zb7 F => ?_
  have sB21 := B21.size
  have hBr := bt hBr B21
  have m1 := m1.old B21
  have m2 := m2.old B21
  have m4 := m4.old B21
  have m5 := m5.old B21
  have m6 := m6.old B21
  have hO := own_below hO B21
  have hP := hP.below B21
  have hR := hR.below B21
  have hBe := hBe.trans (B21.mono (by omega))
  have hD9 := hD9.below B21 (by omega)
  refine s_putW F rfl rfl (size_wide wide27) m7 rfl h1y fun w24 m7 o25 => ?_
  have so25 := o25.size
  have hBr := hBr.trans (o25.below (by omega))
  have m1 := m1.only o25 (by omega)
  have m2 := m2.only o25 (by omega)
  have m4 := m4.only o25 (by omega)
  have m5 := m5.only o25 (by omega)
  have m6 := m6.only o25 (by omega)
  have hO := own_only hO o25 (fun e => by have := hOt _ e; omega)
  have hP := hP.only o25 (fun k (hk : (((k < w0.heap.size ∧ A k) ∨ p + 2 ≤ k) ∧ (Value.slice avv zs.length cvv).ownBlock ≠ some k) ∧ k < top) => by omega)
  have hR := hR.only o25 (by omega)
  have hBe := hBe.trans (o25.below (by omega))
  have hD9 := hD9.only o25 (by omega)
  refine s_end ?_
  refine hK _ _ hBe (by rw [← hp]; exact hD9) fun W3 hO3 => ?_
  have sO := hO3.size
  have m1 := m1.only hO3 (by omega)
  have m2 := m2.only hO3 (by omega)
  have m4 := m4.only hO3 (by omega)
  have m5 := m5.only hO3 (by omega)
  have m6 := m6.only hO3 (by omega)
  have hR := hR.only hO3 (by omega)
  have m7 := m7.only hO3 (by omega)
  have hO := own_only hO hO3 (fun e => by have := hOt _ e; omega)
  have hP := hP.only hO3 (fun k (hk : (((k < w0.heap.size ∧ A k) ∨ p + 2 ≤ k) ∧ (Value.slice avv zs.length cvv).ownBlock ≠ some k) ∧ k < top) => by omega)
  have hBr := hBr.trans (hO3.below (by omega))
  have hBe := Below.refl w0.heap.size W3
  have hD9 := Kd.refl p W3
  have sBe := hBe.size
  have sBr := hBr.size
  refine wpIn_block ?_
  refine wpI_rs (by repeat' first | exact rndPostX.calm | exact false.calm | refine Calm.then ?_ _ | refine Calm.block ?_ _) rfl fun _ K9 => ?_
  refine F.vl (x_ldW wide27 m7 rfl rfl) fun a F => ?_
  refine s_putW F rfl rfl (size_wide wide27) m5 rfl h1y fun w28 m5 o29 => ?_
  have so29 := o29.size
  have hBr := hBr.trans (o29.below (by omega))
  have m1 := m1.only o29 (by omega)
  have m2 := m2.only o29 (by omega)
  have m4 := m4.only o29 (by omega)
  have m6 := m6.only o29 (by omega)
  have hO := own_only hO o29 (fun e => by have := hOt _ e; omega)
  have hP := hP.only o29 (fun k (hk : (((k < w0.heap.size ∧ A k) ∨ p + 2 ≤ k) ∧ (Value.slice avv zs.length cvv).ownBlock ≠ some k) ∧ k < top) => by omega)
  have m7 := m7.only o29 (by omega)
  have hR := hR.only o29 (by omega)
  have hBe := hBe.trans (o29.below (by omega))
  have hD9 := hD9.only o29 (by omega)
  refine s_end (K9 _ _ ?_)
  refine wpI_rs (by repeat' first | exact rndPostX.calm | exact false.calm | refine Calm.then ?_ _ | refine Calm.block ?_ _) rfl fun _ K10 => ?_
  refine F.vl (x_ldW wide27 m7 rfl rfl) fun a F => ?_
  refine s_callB [_] F E52 rfl (by decide) (isApplied68 ci yi A w0 w28 hri) fun w30 a B31 F => ?_
  have sB31 := B31.size
  have hBr := bt hBr B31
  have m1 := m1.old B31
  have m2 := m2.old B31
  have m4 := m4.old B31
  have m5 := m5.old B31
  have m6 := m6.old B31
  have hO := own_below hO B31
  have hP := hP.below B31
  have m7 := m7.old B31
  have hR := hR.below B31
  have hBe := hBe.trans (B31.mono (by omega))
  have hD9 := hD9.below B31 (by omega)
  refine s_end (K10 _ _ ?_)
  refine wpI_iff F rfl (fun hap => ?_) (fun hap => ?_)
  ·
   obtain ⟨k1, hk1, hsp1⟩ := CT.spA_get c ci i hci hap
   have hnx := (CT.spL_next c ci i hci).1 hap
   obtain ⟨av, nv, cv, hts, hle9, hlen9, hcap, hkid⟩ := hri.kids
   obtain ⟨xk, xn, xs, xl, xls, xts⟩ := yi
   simp only at hts
   subst hts
   obtain ⟨b9, off9, c9, y, kd, hve, hyk, hry, hAb, hbl, hrow⟩ := hkid.row (i := 1) (List.getElem?_eq_some_iff.1 hk1).1
   cases hve
   obtain rfl : kd = k1 := by rw [hk1] at hyk; exact (Option.some.inj hyk).symm
   have hk1l : 1 < ci.kids.length := (List.getElem?_eq_some_iff.1 hk1).1
   have hlz : i < c.spA.length := (List.getElem?_eq_some_iff.1 hsp1).1
   have htk : (c.spA.take (i + 1)).map CT.ess = (c.spA.take i).map CT.ess ++ [kd.ess] := by rw [take_snoc hsp1, List.map_append]; rfl
   obtain ⟨o9, hat9, ho9⟩ : ∃ o, (∀ j, (Value.slice avv zs.length cvv).ownBlock = some j → j = o) ∧ (p + 2 ≤ o ∧ o ≠ b7) := by
    cases hv9 : (Value.slice avv zs.length cvv).ownBlock with
    | none => exact ⟨w30.heap.size, (fun j h => by cases h), by omega⟩
    | some j => exact ⟨j, (fun i h => by cases h; rfl), by have := hOt j hv9; omega⟩
   have hfin : ∀ j, (Value.slice avv zs.length cvv).ownBlock = some j → j < w30.heap.size := fun j h => by have := hOt j h; omega
   have hnon : (Value.slice avv zs.length cvv).ownBlock = none → Hid (o9 = o9) := fun _ => rfl
   refine dli_region (br) (o9) 12 (ops := regOps Try.f21 10) (N := 13) (by kernel_rfl) wide_orders (by kernel_rfl) fun w32 hw32 B33 hS K11 hK11 => ?_
   have zw32 : w32.heap.size = w30.heap.size := by rw [hw32]
   have sB33 := B33.size
   have hBr := bt hBr B33
   have m1 := m1.old B33
   have m2 := m2.old B33
   have m4 := m4.old B33
   have m5 := m5.old B33
   have m6 := m6.old B33
   have hO := own_below hO B33
   have hP := hP.below B33
   have m7 := m7.old B33
   have hR := hR.below B33
   have hBe := hBe.trans (B33.mono (by omega))
   have hD9 := hD9.below B33 (by omega)
   have m1_d := m1
   have m2_d := m2
   have m4_d := m4
   have m5_d := m5
   have m6_d := m6
   have hR_d := hR
   have hO_d := hO
   have hP_d := hP
   have m7_d := m7
   have hBe_d := hBe
   have hBr_d := hBr
   have hD9_d := hD9
   refine dl_val 0 20 (op := (.load 25 (.tmp 6))) F hS (by kernel_rfl) (fun W hW => x_load rfl (m_load flat25 ((m6_d.k2 hW (by omega)).cell (j := 0) rfl))) (by kernel_rfl) (by kernel_rfl) (by decide) fun a F => ?_
   refine dl_val 1 21 (op := (.load 63 (.tmp 4))) F hS (by kernel_rfl) (fun W hW => x_load rfl (m_load flat64 ((m4_d.k2 hW (by omega)).cell (j := 0) rfl))) (by kernel_rfl) (by kernel_rfl) (by decide) fun a F => ?_
   refine dl_val 2 22 (op := (.fieldAddr 27 (.tmp 7) 5)) F hS (by kernel_rfl) (fun W hW => x_fa0 fa27_5 rfl) (by kernel_rfl) (by kernel_rfl) (by decide) fun a F => ?_
   refine dl_val 3 23 (op := (.load 25 (.tmp 22))) F hS (by kernel_rfl) (fun W hW => x_load rfl (m_load flat25 ((m7_d.k2 hW (by omega)).cell (j := 7) rfl))) (by kernel_rfl) (by kernel_rfl) (by decide) fun a F => ?_
   refine dl_val 4 24 (op := (.indexAddr 25 (.tmp 23) (.const (.int .i64 1)))) F hS (by kernel_rfl) (fun W hW => x_ixa rfl rfl (m_ixsK 1 Try.underlying25 el25.size rfl (by omega))) (by kernel_rfl) (by kernel_rfl) (by decide) fun a F => ?_
   refine dl_val 5 25 (op := (.load 27 (.tmp 24))) F hS (by kernel_rfl) (fun W hW => x_ldA wide27 (hrow _ ((hW.under hBr_d (by omega)).block _ hbl)) rfl rfl) (by kernel_rfl) (by kernel_rfl) (by decide) fun a F => ?_
   refine dl_val 7 27 (op := (.call (.mk (.builtin .len) #[(.tmp 20)] #[25]))) F hS (by kernel_rfl) (fun W hW => x_len Try.underlying25 rfl) (by kernel_rfl) (by kernel_rfl) (by decide) fun a F => ?_
   refine dl_two 6 8 (by kernel_rfl) ?_ ?_
   ·
    refine d_op 6 (some 26) (.call (.mk (.value (.func 41)) #[(.tmp 21), (.tmp 25)] #[63, 27])) (by kernel_rfl) fun ty pos af => ?_
    refine s_call (R := fun u w' => ((∃ z, u = tv z ∧ REx w' (AS A w32.heap.size) kd.ess z) ∧ Room w' br) ∧ Ktw br br w32 w') F [_, _] E41 rfl (by decide) (owned57 w32 br (by omega) A (fun k hk => by have := hA k hk; omega) kd y (hry.keep hBr.size (fun k hk hb => hBr.block k (hA k hk))) hR) ?_
    rintro _ w34 a ⟨⟨⟨z, rfl, hz0⟩, hR⟩, k35⟩ F
    have sk35 := k35.size
    have hBe := below_k2 hBe k35 (by omega)
    have hD9 := hD9.k2 k35 (by omega)
    have m1 := m1.k2 k35 (by omega)
    have m2 := m2.k2 k35 (by omega)
    have m4 := m4.k2 k35 (by omega)
    have m5 := m5.k2 k35 (by omega)
    have m6 := m6.k2 k35 (by omega)
    have hO := own_k2 hO k35 (fun c hc => by have := hOt c hc; omega)
    have hP := hP.k2 k35 (fun k (hk : (((k < w0.heap.size ∧ A k) ∨ p + 2 ≤ k) ∧ (Value.slice avv zs.length cvv).ownBlock ≠ some k) ∧ k < top) => by omega)
    have hS := hS.trans k35 (by omega)
    have hz := RE.valid hz0
    clear hz0
    have hz : REx w34 (fun k => ((k < w0.heap.size ∧ A k) ∨ w32.heap.size ≤ k) ∧ k < w34.heap.size) kd.ess z := hz.mono (fun k hk => ⟨hk.1.elim (fun h => .inl ⟨hA k h, h⟩) .inr, hk.2⟩)
    have h1z := RE.one hz
    refine s_end ⟨fun _ => hS, ?_⟩
    refine dl_one 8 (some 28) (.buildSlice 25 1 #[(0, (.const (.agg #[(.int .i64 0), (.int .i64 0), (.string (ByteArray.mk #[])), (.int .i64 0), (.int .i64 0), (.slice none 0 0), (.slice none 0 0), (.slice none 0 0)])))]) (by kernel_rfl) (by kernel_rfl) fun ty pos af => ?_
    refine s_litG [tv ⟨0, 0, emptyB, (0, 0, nilS), nilS, nilS⟩] el25 F (by decide) rfl (by simp [Value.cells, tc]) rfl (by decide) (by decide) fun w36 bl a ebl ml B37 zbl F => ?_
    have sB37 := B37.size
    have m1 := m1.old B37
    have m2 := m2.old B37
    have m4 := m4.old B37
    have m5 := m5.old B37
    have m6 := m6.old B37
    have hO := own_below hO B37
    have hP := hP.below B37
    have hz := hz.below B37
    have hS := hS.below B37
    have hR := hR.below B37
    have hBe := hBe.trans (B37.mono (by omega))
    have hD9 := hD9.below B37 (by omega)
    have ml : Blk w36 bl 27 (tc ⟨0, 0, emptyB, (0, 0, nilS), nilS, nilS⟩) := by simpa [Value.cells] using ml
    refine s_end ⟨fun _ => hS, ?_⟩
    refine dl_one 9 (some 29) (.call (.mk (.builtin .append) #[(.tmp 20), (.tmp 28)] #[25, 25])) (by kernel_rfl) (by kernel_rfl) fun ty pos af => ?_
    obtain ⟨o2, hat, ho2, hno, hzno, hSx⟩ : ∃ o, (∀ j, (Value.slice avv zs.length cvv).ownBlock = some j → j = o) ∧ (p + 2 ≤ o ∧ o < w36.heap.size) ∧ (∀ k, k < top → (Value.slice avv zs.length cvv).ownBlock ≠ some k → k ≠ o) ∧ (∀ k, (((k < w0.heap.size ∧ A k) ∨ w32.heap.size ≤ k) ∧ k < w34.heap.size) → k ≠ o) ∧ Hid (o = o9 ∨ w32.heap.size ≤ o) := by
     cases hv9 : (Value.slice avv zs.length cvv).ownBlock with
     | none => exact ⟨bl, (fun j h => by cases h), by omega, (fun k hk _ => by omega), (fun k hk => by omega), by unfold Hid; omega⟩
     | some j => exact ⟨j, (fun i h => by cases h; rfl), by have := hOt j hv9; omega, (fun k _ hk e => hk (by rw [e])), (fun k hk => by have := hOt j hv9; omega), .inl (hat9 j hv9)⟩
    have hP9 : QT w36 (fun k => ((k < w0.heap.size ∧ A k) ∨ p + 2 ≤ k) ∧ k ≠ o2 ∧ k < top) zs ((c.spA.take i).map CT.ess) := hP.mono (fun k hk => ⟨hk.1.1, hno k hk.2 hk.1.2, hk.2⟩)
    have hz9 : REx w36 (fun k => (((k < w0.heap.size ∧ A k) ∨ w32.heap.size ≤ k) ∧ k < w34.heap.size) ∧ k ≠ o2) kd.ess z := RE.mono (fun k hk => ⟨hk, hzno k hk⟩) hz
    clear hP hz hno hzno
    have hP := hP9
    have hz := hz9
    clear hP9 hz9
    refine s_appL (o := o2) el25 F (by decide) rfl rfl hO ml rfl (one_tc0 _ _ _ _ rfl) hat (by omega) (by omega) (by decide) (by omega) fun v3 w38 a o3 hOn hOatn how hsrc k39 hkeep F => ?_
    have sk39 := k39.size
    have m1 := m1.k2 k39 (by omega)
    have m2 := m2.k2 k39 (by omega)
    have m4 := m4.k2 k39 (by omega)
    have m5 := m5.k2 k39 (by omega)
    have m6 := m6.k2 k39 (by omega)
    have hP := hP.k2 k39 (fun k (hk : ((k < w0.heap.size ∧ A k) ∨ p + 2 ≤ k) ∧ k ≠ o2 ∧ k < top) => by omega)
    have hz := hz.k2 k39 (fun k (hk : (((k < w0.heap.size ∧ A k) ∨ w32.heap.size ≤ k) ∧ k < w34.heap.size) ∧ k ≠ o2) => by omega)
    have hS := hS.trans k39 (by have h := hSx; unfold Hid at h; omega)
    have hO := hOn
    have hO_at := hOatn
    have hR := hR.k2 k39 (by omega)
    have hBe := below_k2 hBe k39 (by omega)
    have hD9 := hD9.k2 k39 (by omega)
    obtain ⟨q3, cap3, cur3, hv3, _⟩ := own_blk hO (by omega)
    subst hv3
    obtain rfl := hO_at q3 rfl
    clear hO_at
    have hO_at2 : ∀ j, (Value.slice (some ⟨q3, 0, none⟩) (zs.length + 1) cap3).ownBlock = some j → j = q3 := fun j h => by simp [Value.ownBlock] at h; exact h.symm
    have hq3b : p + 2 ≤ q3 := by omega
    have hP9 := hP.mono (fun k hk => (⟨hk.1, by omega, hk.2.2⟩ : ((k < w0.heap.size ∧ A k) ∨ p + 2 ≤ k) ∧ k ≠ q3 ∧ k < top))
    have hz9 : REx w38 (fun k => (((k < w0.heap.size ∧ A k) ∨ w32.heap.size ≤ k) ∧ k < w34.heap.size) ∧ k ≠ q3) kd.ess z := RE.mono (fun k hk => ⟨hk.1, by omega⟩) hz
    have hSq : Hid (q3 = o9 ∨ w32.heap.size ≤ q3) := by have h := hSx; unfold Hid at h ⊢; omega
    clear hP hz how
    have hP := hP9
    have hz := hz9
    clear hP9 hz9
    refine s_end ⟨fun _ => hS, ?_⟩
    refine dl_vala 10 30 (op := (.indexAddr 25 (.tmp 29) (.tmp 27))) F (fun _ => hS) (by kernel_rfl) (fun W => x_ixa rfl rfl (m_ixsK zs.length Try.underlying25 el25.size rfl (by omega))) (by kernel_rfl) (by kernel_rfl) (by decide) fun a F => ?_
    refine dl_two 11 12 (by kernel_rfl) ?_ ?_
    ·
     refine d_op 11 none (.store 27 (.tmp 30) (.tmp 26)) (by kernel_rfl) fun ty pos af => ?_
     refine s_ownput (m := zs.length) (zs := zs) (z0 := ⟨0, 0, emptyB, (0, 0, nilS), nilS, nilS⟩) (z := z) (o := q3) (cap := cap3) (base := w0.heap.size) F rfl rfl rfl hO h1z fun w40 hO o41 => ?_
     have so41 := o41.size
     have m1 := m1.only o41 (by omega)
     have m2 := m2.only o41 (by omega)
     have m4 := m4.only o41 (by omega)
     have m5 := m5.only o41 (by omega)
     have m6 := m6.only o41 (by omega)
     have hP := hP.only o41 (fun k (hk : ((k < w0.heap.size ∧ A k) ∨ p + 2 ≤ k) ∧ k ≠ q3 ∧ k < top) => by omega)
     have hz := hz.only o41 (fun k (hk : (((k < w0.heap.size ∧ A k) ∨ w32.heap.size ≤ k) ∧ k < w34.heap.size) ∧ k ≠ q3) => by omega)
     have hS := hS.only o41 (by have h := hSq; unfold Hid at h; omega)
     have hR := hR.only o41 (by omega)
     have hBe := hBe.trans (o41.below (by omega))
     have hD9 := hD9.only o41 (by omega)
     refine s_end ⟨fun _ => hS, ?_⟩
     refine dl_one 12 none (.store 25 (.tmp 6) (.tmp 29)) (by kernel_rfl) (by kernel_rfl) fun ty pos af => ?_
     refine s_put F rfl rfl flat25 m6 (by first | (simp; done) | decide) rfl fun w42 m6 o43 => ?_
     have so43 := o43.size
     have m1 := m1.only o43 (by omega)
     have m2 := m2.only o43 (by omega)
     have m4 := m4.only o43 (by omega)
     have m5 := m5.only o43 (by omega)
     have hO := own_only hO o43 (fun e => by have := hO_at2 _ e; omega)
     have hP := hP.only o43 (fun k (hk : ((k < w0.heap.size ∧ A k) ∨ p + 2 ≤ k) ∧ k ≠ q3 ∧ k < top) => by omega)
     have hz := hz.only o43 (fun k (hk : (((k < w0.heap.size ∧ A k) ∨ w32.heap.size ≤ k) ∧ k < w34.heap.size) ∧ k ≠ q3) => by omega)
     have hR := hR.only o43 (by omega)
     have hBe := hBe.trans (o43.below (by omega))
     have hD9 := hD9.only o43 (by omega)
     refine s_end ⟨not_lst (by kernel_rfl), ?_⟩
     refine dl_end (by kernel_rfl) (hK11 _ _ ?_)
     exact ⟨hBe, by rw [← hp]; exact hD9, (i, true), rfl, ⟨cj, _, hcj, m1, hrj⟩, m2, m4, hR, ⟨_, m5, fun _ => ⟨ci, hci, hri⟩⟩, _, zs ++ [z], by rw [fm8_app]; simpa using hO, (fun j h => by have := hO_at2 j h; omega), by rw [show spN (i, true) = i + 1 from rfl, htk]; exact (hP.mono (fun k (hk : ((k < w0.heap.size ∧ A k) ∨ p + 2 ≤ k) ∧ k ≠ q3 ∧ k < top) => ⟨⟨hk.1, fun e => by have := hO_at2 k e; omega⟩, by omega⟩)).snoc (RE.mono (fun k (hk : (((k < w0.heap.size ∧ A k) ∨ w32.heap.size ≤ k) ∧ k < w34.heap.size) ∧ k ≠ q3) => ⟨⟨hk.1.1.elim .inl (fun h => .inr (by omega)), fun e => by have := hO_at2 k e; omega⟩, by omega⟩) hz), m6⟩
    ·
     refine d_op 12 none (.store 25 (.tmp 6) (.tmp 29)) (by kernel_rfl) fun ty pos af => ?_
     refine s_put F rfl rfl flat25 m6 (by first | (simp; done) | decide) rfl fun w44 m6 o45 => ?_
     have so45 := o45.size
     have m1 := m1.only o45 (by omega)
     have m2 := m2.only o45 (by omega)
     have m4 := m4.only o45 (by omega)
     have m5 := m5.only o45 (by omega)
     have hO := own_only hO o45 (fun e => by have := hO_at2 _ e; omega)
     have hP := hP.only o45 (fun k (hk : ((k < w0.heap.size ∧ A k) ∨ p + 2 ≤ k) ∧ k ≠ q3 ∧ k < top) => by omega)
     have hz := hz.only o45 (fun k (hk : (((k < w0.heap.size ∧ A k) ∨ w32.heap.size ≤ k) ∧ k < w34.heap.size) ∧ k ≠ q3) => by omega)
     have hR := hR.only o45 (by omega)
     have hBe := hBe.trans (o45.below (by omega))
     have hD9 := hD9.only o45 (by omega)
     refine s_end ⟨not_lst (by kernel_rfl), ?_⟩
     refine dl_one 11 none (.store 27 (.tmp 30) (.tmp 26)) (by kernel_rfl) (by kernel_rfl) fun ty pos af => ?_
     refine s_ownput (m := zs.length) (zs := zs) (z0 := ⟨0, 0, emptyB, (0, 0, nilS), nilS, nilS⟩) (z := z) (o := q3) (cap := cap3) (base := w0.heap.size) F rfl rfl rfl hO h1z fun w46 hO o47 => ?_
     have so47 := o47.size
     have m1 := m1.only o47 (by omega)
     have m2 := m2.only o47 (by omega)
     have m4 := m4.only o47 (by omega)
     have m5 := m5.only o47 (by omega)
     have m6 := m6.only o47 (by omega)
     have hP := hP.only o47 (fun k (hk : ((k < w0.heap.size ∧ A k) ∨ p + 2 ≤ k) ∧ k ≠ q3 ∧ k < top) => by omega)
     have hz := hz.only o47 (fun k (hk : (((k < w0.heap.size ∧ A k) ∨ w32.heap.size ≤ k) ∧ k < w34.heap.size) ∧ k ≠ q3) => by omega)
     have hR := hR.only o47 (by omega)
     have hBe := hBe.trans (o47.below (by omega))
     have hD9 := hD9.only o47 (by omega)
     refine s_end ⟨not_lst (by kernel_rfl), ?_⟩
     refine dl_end (by kernel_rfl) (hK11 _ _ ?_)
     exact ⟨hBe, by rw [← hp]; exact hD9, (i, true), rfl, ⟨cj, _, hcj, m1, hrj⟩, m2, m4, hR, ⟨_, m5, fun _ => ⟨ci, hci, hri⟩⟩, _, zs ++ [z], by rw [fm8_app]; simpa using hO, (fun j h => by have := hO_at2 j h; omega), by rw [show spN (i, true) = i + 1 from rfl, htk]; exact (hP.mono (fun k (hk : ((k < w0.heap.size ∧ A k) ∨ p + 2 ≤ k) ∧ k ≠ q3 ∧ k < top) => ⟨⟨hk.1, fun e => by have := hO_at2 k e; omega⟩, by omega⟩)).snoc (RE.mono (fun k (hk : (((k < w0.heap.size ∧ A k) ∨ w32.heap.size ≤ k) ∧ k < w34.heap.size) ∧ k ≠ q3) => ⟨⟨hk.1.1.elim .inl (fun h => .inr (by omega)), fun e => by have := hO_at2 k e; omega⟩, by omega⟩) hz), m6⟩
   ·
    refine d_op 8 (some 28) (.buildSlice 25 1 #[(0, (.const (.agg #[(.int .i64 0), (.int .i64 0), (.string (ByteArray.mk #[])), (.int .i64 0), (.int .i64 0), (.slice none 0 0), (.slice none 0 0), (.slice none 0 0)])))]) (by kernel_rfl) fun ty pos af => ?_
    refine s_litG [tv ⟨0, 0, emptyB, (0, 0, nilS), nilS, nilS⟩] el25 F (by decide) rfl (by simp [Value.cells, tc]) rfl (by decide) (by decide) fun w48 bl a ebl ml B49 zbl F => ?_
    have sB49 := B49.size
    have hBr := bt hBr B49
    have m1 := m1.old B49
    have m2 := m2.old B49
    have m4 := m4.old B49
    have m5 := m5.old B49
    have m6 := m6.old B49
    have hO := own_below hO B49
    have hP := hP.below B49
    have hS := hS.below B49
    have hR := hR.below B49
    have hBe := hBe.trans (B49.mono (by omega))
    have hD9 := hD9.below B49 (by omega)
    have ml : Blk w48 bl 27 (tc ⟨0, 0, emptyB, (0, 0, nilS), nilS, nilS⟩) := by simpa [Value.cells] using ml
    refine s_end ⟨fun _ => hS, ?_⟩
    refine dl_one 6 (some 26) (.call (.mk (.value (.func 41)) #[(.tmp 21), (.tmp 25)] #[63, 27])) (by kernel_rfl) (by kernel_rfl) fun ty pos af => ?_
    refine s_call (R := fun u w' => ((∃ z, u = tv z ∧ REx w' (AS A w48.heap.size) kd.ess z) ∧ Room w' br) ∧ Ktw br br w48 w') F [_, _] E41 rfl (by decide) (owned57 w48 br (by omega) A (fun k hk => by have := hA k hk; omega) kd y (hry.keep hBr.size (fun k hk hb => hBr.block k (hA k hk))) hR) ?_
    rintro _ w50 a ⟨⟨⟨z, rfl, hz0⟩, hR⟩, k51⟩ F
    have sk51 := k51.size
    have hBe := below_k2 hBe k51 (by omega)
    have hD9 := hD9.k2 k51 (by omega)
    have m1 := m1.k2 k51 (by omega)
    have m2 := m2.k2 k51 (by omega)
    have m4 := m4.k2 k51 (by omega)
    have m5 := m5.k2 k51 (by omega)
    have m6 := m6.k2 k51 (by omega)
    have hO := own_k2 hO k51 (fun c hc => by have := hOt c hc; omega)
    have hP := hP.k2 k51 (fun k (hk : (((k < w0.heap.size ∧ A k) ∨ p + 2 ≤ k) ∧ (Value.slice avv zs.length cvv).ownBlock ≠ some k) ∧ k < top) => by omega)
    have ml := ml.k2 k51 (by omega)
    have hS := hS.trans k51 (by omega)
    have hz := RE.valid hz0
    clear hz0
    have hz : REx w50 (fun k => ((k < w0.heap.size ∧ A k) ∨ w48.heap.size ≤ k) ∧ k < w50.heap.size) kd.ess z := hz.mono (fun k hk => ⟨hk.1.elim (fun h => .inl ⟨hA k h, h⟩) .inr, hk.2⟩)
    have h1z := RE.one hz
    refine s_end ⟨fun _ => hS, ?_⟩
    refine dl_one 9 (some 29) (.call (.mk (.builtin .append) #[(.tmp 20), (.tmp 28)] #[25, 25])) (by kernel_rfl) (by kernel_rfl) fun ty pos af => ?_
    obtain ⟨o2, hat, ho2, hno, hzno, hSx⟩ : ∃ o, (∀ j, (Value.slice avv zs.length cvv).ownBlock = some j → j = o) ∧ (p + 2 ≤ o ∧ o < w50.heap.size) ∧ (∀ k, k < top → (Value.slice avv zs.length cvv).ownBlock ≠ some k → k ≠ o) ∧ (∀ k, (((k < w0.heap.size ∧ A k) ∨ w48.heap.size ≤ k) ∧ k < w50.heap.size) → k ≠ o) ∧ Hid (o = o9 ∨ w32.heap.size ≤ o) := by
     cases hv9 : (Value.slice avv zs.length cvv).ownBlock with
     | none => exact ⟨bl, (fun j h => by cases h), by omega, (fun k hk _ => by omega), (fun k hk => by omega), by unfold Hid; omega⟩
     | some j => exact ⟨j, (fun i h => by cases h; rfl), by have := hOt j hv9; omega, (fun k _ hk e => hk (by rw [e])), (fun k hk => by have := hOt j hv9; omega), .inl (hat9 j hv9)⟩
    have hP9 : QT w50 (fun k => ((k < w0.heap.size ∧ A k) ∨ p + 2 ≤ k) ∧ k ≠ o2 ∧ k < top) zs ((c.spA.take i).map CT.ess) := hP.mono (fun k hk => ⟨hk.1.1, hno k hk.2 hk.1.2, hk.2⟩)
    have hz9 : REx w50 (fun k => (((k < w0.heap.size ∧ A k) ∨ w48.heap.size ≤ k) ∧ k < w50.heap.size) ∧ k ≠ o2) kd.ess z := RE.mono (fun k hk => ⟨hk, hzno k hk⟩) hz
    clear hP hz hno hzno
    have hP := hP9
    have hz := hz9
    clear hP9 hz9
    refine s_appL (o := o2) el25 F (by decide) rfl rfl hO ml rfl (one_tc0 _ _ _ _ rfl) hat (by omega) (by omega) (by decide) (by omega) fun v3 w52 a o3 hOn hOatn how hsrc k53 hkeep F => ?_
    have sk53 := k53.size
    have m1 := m1.k2 k53 (by omega)
    have m2 := m2.k2 k53 (by omega)
    have m4 := m4.k2 k53 (by omega)
    have m5 := m5.k2 k53 (by omega)
    have m6 := m6.k2 k53 (by omega)
    have hP := hP.k2 k53 (fun k (hk : ((k < w0.heap.size ∧ A k) ∨ p + 2 ≤ k) ∧ k ≠ o2 ∧ k < top) => by omega)
    have hz := hz.k2 k53 (fun k (hk : (((k < w0.heap.size ∧ A k) ∨ w48.heap.size ≤ k) ∧ k < w50.heap.size) ∧ k ≠ o2) => by omega)
    have hS := hS.trans k53 (by have h := hSx; unfold Hid at h; omega)
    have hO := hOn
    have hO_at := hOatn
    have hR := hR.k2 k53 (by omega)
    have hBe := below_k2 hBe k53 (by omega)
    have hD9 := hD9.k2 k53 (by omega)
    obtain ⟨q3, cap3, cur3, hv3, _⟩ := own_blk hO (by omega)
    subst hv3
    obtain rfl := hO_at q3 rfl
    clear hO_at
    have hO_at2 : ∀ j, (Value.slice (some ⟨q3, 0, none⟩) (zs.length + 1) cap3).ownBlock = some j → j = q3 := fun j h => by simp [Value.ownBlock] at h; exact h.symm
    have hq3b : p + 2 ≤ q3 := by omega
    have hP9 := hP.mono (fun k hk => (⟨hk.1, by omega, hk.2.2⟩ : ((k < w0.heap.size ∧ A k) ∨ p + 2 ≤ k) ∧ k ≠ q3 ∧ k < top))
    have hz9 : REx w52 (fun k => (((k < w0.heap.size ∧ A k) ∨ w48.heap.size ≤ k) ∧ k < w50.heap.size) ∧ k ≠ q3) kd.ess z := RE.mono (fun k hk => ⟨hk.1, by omega⟩) hz
    have hSq : Hid (q3 = o9 ∨ w32.heap.size ≤ q3) := by have h := hSx; unfold Hid at h ⊢; omega
    clear hP hz how
    have hP := hP9
    have hz := hz9
    clear hP9 hz9
    refine s_end ⟨fun _ => hS, ?_⟩
    refine dl_vala 10 30 (op := (.indexAddr 25 (.tmp 29) (.tmp 27))) F (fun _ => hS) (by kernel_rfl) (fun W => x_ixa rfl rfl (m_ixsK zs.length Try.underlying25 el25.size rfl (by omega))) (by kernel_rfl) (by kernel_rfl) (by decide) fun a F => ?_
    refine dl_two 11 12 (by kernel_rfl) ?_ ?_
    ·
     refine d_op 11 none (.store 27 (.tmp 30) (.tmp 26)) (by kernel_rfl) fun ty pos af => ?_
     refine s_ownput (m := zs.length) (zs := zs) (z0 := ⟨0, 0, emptyB, (0, 0, nilS), nilS, nilS⟩) (z := z) (o := q3) (cap := cap3) (base := w0.heap.size) F rfl rfl rfl hO h1z fun w54 hO o55 => ?_
     have so55 := o55.size
     have m1 := m1.only o55 (by omega)
     have m2 := m2.only o55 (by omega)
     have m4 := m4.only o55 (by omega)
     have m5 := m5.only o55 (by omega)
     have m6 := m6.only o55 (by omega)
     have hP := hP.only o55 (fun k (hk : ((k < w0.heap.size ∧ A k) ∨ p + 2 ≤ k) ∧ k ≠ q3 ∧ k < top) => by omega)
     have hz := hz.only o55 (fun k (hk : (((k < w0.heap.size ∧ A k) ∨ w48.heap.size ≤ k) ∧ k < w50.heap.size) ∧ k ≠ q3) => by omega)
     have hS := hS.only o55 (by have h := hSq; unfold Hid at h; omega)
     have hR := hR.only o55 (by omega)
     have hBe := hBe.trans (o55.below (by omega))
     have hD9 := hD9.only o55 (by omega)
     refine s_end ⟨fun _ => hS, ?_⟩
     refine dl_one 12 none (.store 25 (.tmp 6) (.tmp 29)) (by kernel_rfl) (by kernel_rfl) fun ty pos af => ?_
     refine s_put F rfl rfl flat25 m6 (by first | (simp; done) | decide) rfl fun w56 m6 o57 => ?_
     have so57 := o57.size
     have m1 := m1.only o57 (by omega)
     have m2 := m2.only o57 (by omega)
     have m4 := m4.only o57 (by omega)
     have m5 := m5.only o57 (by omega)
     have hO := own_only hO o57 (fun e => by have := hO_at2 _ e; omega)
     have hP := hP.only o57 (fun k (hk : ((k < w0.heap.size ∧ A k) ∨ p + 2 ≤ k) ∧ k ≠ q3 ∧ k < top) => by omega)
     have hz := hz.only o57 (fun k (hk : (((k < w0.heap.size ∧ A k) ∨ w48.heap.size ≤ k) ∧ k < w50.heap.size) ∧ k ≠ q3) => by omega)
     have hR := hR.only o57 (by omega)
     have hBe := hBe.trans (o57.below (by omega))
     have hD9 := hD9.only o57 (by omega)
     refine s_end ⟨not_lst (by kernel_rfl), ?_⟩
     refine dl_end (by kernel_rfl) (hK11 _ _ ?_)
     exact ⟨hBe, by rw [← hp]; exact hD9, (i, true), rfl, ⟨cj, _, hcj, m1, hrj⟩, m2, m4, hR, ⟨_, m5, fun _ => ⟨ci, hci, hri⟩⟩, _, zs ++ [z], by rw [fm8_app]; simpa using hO, (fun j h => by have := hO_at2 j h; omega), by rw [show spN (i, true) = i + 1 from rfl, htk]; exact (hP.mono (fun k (hk : ((k < w0.heap.size ∧ A k) ∨ p + 2 ≤ k) ∧ k ≠ q3 ∧ k < top) => ⟨⟨hk.1, fun e => by have := hO_at2 k e; omega⟩, by omega⟩)).snoc (RE.mono (fun k (hk : (((k < w0.heap.size ∧ A k) ∨ w48.heap.size ≤ k) ∧ k < w50.heap.size) ∧ k ≠ q3) => ⟨⟨hk.1.1.elim .inl (fun h => .inr (by omega)), fun e => by have := hO_at2 k e; omega⟩, by omega⟩) hz), m6⟩
    ·
     refine d_op 12 none (.store 25 (.tmp 6) (.tmp 29)) (by kernel_rfl) fun ty pos af => ?_
     refine s_put F rfl rfl flat25 m6 (by first | (simp; done) | decide) rfl fun w58 m6 o59 => ?_
     have so59 := o59.size
     have m1 := m1.only o59 (by omega)
     have m2 := m2.only o59 (by omega)
     have m4 := m4.only o59 (by omega)
     have m5 := m5.only o59 (by omega)
     have hO := own_only hO o59 (fun e => by have := hO_at2 _ e; omega)
     have hP := hP.only o59 (fun k (hk : ((k < w0.heap.size ∧ A k) ∨ p + 2 ≤ k) ∧ k ≠ q3 ∧ k < top) => by omega)
     have hz := hz.only o59 (fun k (hk : (((k < w0.heap.size ∧ A k) ∨ w48.heap.size ≤ k) ∧ k < w50.heap.size) ∧ k ≠ q3) => by omega)
     have hR := hR.only o59 (by omega)
     have hBe := hBe.trans (o59.below (by omega))
     have hD9 := hD9.only o59 (by omega)
     refine s_end ⟨not_lst (by kernel_rfl), ?_⟩
     refine dl_one 11 none (.store 27 (.tmp 30) (.tmp 26)) (by kernel_rfl) (by kernel_rfl) fun ty pos af => ?_
     refine s_ownput (m := zs.length) (zs := zs) (z0 := ⟨0, 0, emptyB, (0, 0, nilS), nilS, nilS⟩) (z := z) (o := q3) (cap := cap3) (base := w0.heap.size) F rfl rfl rfl hO h1z fun w60 hO o61 => ?_
     have so61 := o61.size
     have m1 := m1.only o61 (by omega)
     have m2 := m2.only o61 (by omega)
     have m4 := m4.only o61 (by omega)
     have m5 := m5.only o61 (by omega)
     have m6 := m6.only o61 (by omega)
     have hP := hP.only o61 (fun k (hk : ((k < w0.heap.size ∧ A k) ∨ p + 2 ≤ k) ∧ k ≠ q3 ∧ k < top) => by omega)
     have hz := hz.only o61 (fun k (hk : (((k < w0.heap.size ∧ A k) ∨ w48.heap.size ≤ k) ∧ k < w50.heap.size) ∧ k ≠ q3) => by omega)
     have hR := hR.only o61 (by omega)
     have hBe := hBe.trans (o61.below (by omega))
     have hD9 := hD9.only o61 (by omega)
     refine s_end ⟨not_lst (by kernel_rfl), ?_⟩
     refine dl_end (by kernel_rfl) (hK11 _ _ ?_)
     exact ⟨hBe, by rw [← hp]; exact hD9, (i, true), rfl, ⟨cj, _, hcj, m1, hrj⟩, m2, m4, hR, ⟨_, m5, fun _ => ⟨ci, hci, hri⟩⟩, _, zs ++ [z], by rw [fm8_app]; simpa using hO, (fun j h => by have := hO_at2 j h; omega), by rw [show spN (i, true) = i + 1 from rfl, htk]; exact (hP.mono (fun k (hk : ((k < w0.heap.size ∧ A k) ∨ p + 2 ≤ k) ∧ k ≠ q3 ∧ k < top) => ⟨⟨hk.1, fun e => by have := hO_at2 k e; omega⟩, by omega⟩)).snoc (RE.mono (fun k (hk : (((k < w0.heap.size ∧ A k) ∨ w48.heap.size ≤ k) ∧ k < w50.heap.size) ∧ k ≠ q3) => ⟨⟨hk.1.1.elim .inl (fun h => .inr (by omega)), fun e => by have := hO_at2 k e; omega⟩, by omega⟩) hz), m6⟩
  ·
   refine wpIn_skip ?_
   have hna := (CT.spL_next c ci i hci).2 hap
   exact ⟨hBe, by rw [← hp]; exact hD9, (i, true), rfl, ⟨cj, _, hcj, m1, hrj⟩, m2, m4, hR, ⟨_, m5, fun _ => ⟨ci, hci, hri⟩⟩, _, zs, hO, hOb, by rw [show spN (i, true) = i + 1 from rfl, List.take_of_length_le (by omega)]; rw [List.take_of_length_le (by omega)] at hP; exact hP.mono (fun k (hk : (((k < w0.heap.size ∧ A k) ∨ p + 2 ≤ k) ∧ (Value.slice avv zs.length cvv).ownBlock ≠ some k) ∧ k < top) => ⟨hk.1, by omega⟩), m6⟩
 ·
  rintro a s W hDn hI hBw hWs hD F
  rw [← hp] at hWs
  obtain ⟨bD, hbD⟩ : ∃ bD, bD = w18.heap.size := ⟨_, rfl⟩
  rw [← hbD] at hD F
  have hD : Dfr W bD := hD
  have hB := hB.trans hBw
  have sB := hB.size
  obtain ⟨i, fl⟩ := s
  obtain ⟨hfl, hdn⟩ := hDn
  simp only at hfl hdn
  subst hfl
  obtain ⟨_, m2, m4, hR, ⟨yh, m5, hyh⟩, vv, zs, hO, hOb, hP, m6⟩ := hI
  rw [show spN (i, true) = i + 1 from rfl, List.take_of_length_le (by omega)] at hP
  obtain ⟨ch, hch, hrh⟩ := hyh rfl
  simp only at hch
  obtain rfl : ch = c.spH := by have h := CT.spH_last c; rw [show c.spL.length - 1 = i by omega, hch] at h; exact Option.some.inj h
  have hPl := hP.1
  rw [List.length_map] at hPl
  obtain ⟨o3, hat3, ho3⟩ : ∃ o, (∀ j, vv.ownBlock = some j → j = o) ∧ p + 2 ≤ o := by
   cases hv9 : vv.ownBlock with
   | none => exact ⟨p + 2, (fun j h => by cases h), by omega⟩
   | some j => exact ⟨j, (fun i h => by cases h; rfl), hOb j hv9⟩
  obtain ⟨avv, cvv, hvv, _⟩ := (Rd.own hO).form
  subst hvv
  have h1z : ∀ z ∈ zs, ∀ u ∈ tc z, u.oneCell' = true := fun z hz => by obtain ⟨i, hi, he⟩ := List.getElem_of_mem hz; exact RE.one (hP.2 i z _ (by rw [← he]; exact List.getElem?_eq_getElem hi) (List.getElem?_eq_getElem (by rw [List.length_map]; omega)))
  obtain ⟨top, htop⟩ : ∃ h, h = W.heap.size := ⟨_, rfl⟩
  rw [← htop] at hP
  have hOl : ∀ j, (Value.slice avv zs.length cvv).ownBlock = some j → j < top := fun j h => by rw [htop]; exact (hO.lt j h).2
  refine K7 _ _ ?_
  refine wp_rs fun _ K12 => F.ld m6 flat25 rfl rfl fun a F => ?_
  have hne0 : (Value.slice avv zs.length cvv).ownBlock = none → zs = [] := fun h => by rcases Nat.eq_zero_or_pos zs.length with h0 | h0; (· exact List.eq_nil_of_length_eq_zero h0); obtain ⟨o, cap, cur, hv, _⟩ := own_blk hO h0; rw [hv] at h; cases h
  have hPx : QT W (fun k => (((k < w0.heap.size ∧ A k) ∨ p + 2 ≤ k) ∧ k ≠ o3) ∧ k < top) zs (c.spA.map CT.ess) := ⟨hP.1, fun j z q e1 e2 => (hP.2 j z q e1 e2).mono (fun k hk => ⟨⟨hk.1.1, fun e => by subst e; cases hv9 : (Value.slice avv zs.length cvv).ownBlock with | none => (have hz0 := hne0 hv9; rw [hz0] at e1; simp at e1) | some j9 => (have := hat3 j9 hv9; subst this; exact hk.1.2 hv9)⟩, hk.2⟩)⟩
  have hP := hPx
  clear hPx
  refine s_call (R := fun u w' => (w'.ownsRow w0.heap.size 27 8 (.slice avv zs.length cvv) zs.length (zs.reverse.flatMap tc)) ∧ Ktw o3 o3 W w') F [_] E53 rfl (by decide) (Reverse69 W w0.heap.size o3 avv cvv zs hO hat3 h1z (by omega)) ?_
  rintro u32 w62 a ⟨hO, k63⟩ F
  have sk63 := k63.size
  have hB := k63.under hB (by omega)
  have m2 := m2.k2 k63 (by omega)
  have m4 := m4.k2 k63 (by omega)
  have m5 := m5.k2 k63 (by omega)
  have m6 := m6.k2 k63 (by omega)
  have hD := hD.k2 k63 (by omega)
  have hP := hP.k2 k63 (fun k (hk : (((k < w0.heap.size ∧ A k) ∨ p + 2 ≤ k) ∧ k ≠ o3) ∧ k < top) => by omega)
  have hR := hR.k2 k63 (by omega)
  refine s_end (K12 _ _ ?_)
  refine dk2_seq (br) (b2) (ops := regOps Try.f21 12) (N := 6) (by kernel_rfl) wide_orders (by kernel_rfl) fun w64 hw64 B65 hS K13 hK13 => ?_
  have zw64 : w64.heap.size = w62.heap.size := by rw [hw64]
  have sB65 := B65.size
  have hB := bt hB B65
  have m2 := m2.old B65
  have m4 := m4.old B65
  have m5 := m5.old B65
  have m6 := m6.old B65
  have hD := hD.old B65
  have hP := hP.below B65
  have hO := own_below hO B65
  have hR := hR.below B65
  have m2_d := m2
  have m4_d := m4
  have m5_d := m5
  have m6_d := m6
  have hR_d := hR
  have hD_d := hD
  have hP_d := hP
  have hO_d := hO
  have hB_d := hB
  refine F.dv 0 33 (.load 63 (.tmp 4)) hS (fun W hW => x_load rfl (m_load flat64 ((m4_d.k2 hW (by omega)).cell (j := 0) rfl))) fun a F => F.dv 1 34 (.load 27 (.tmp 5)) hS (fun W hW => x_ldW wide27 (m5_d.k2 hW (by omega)) rfl rfl) fun a F => F.dv 3 36 (.load 25 (.tmp 6)) hS (fun W hW => x_load rfl (m_load flat25 ((m6_d.k2 hW (by omega)).cell (j := 0) rfl))) fun a F => ?_
  refine d1 2 (some 35) (.call (.mk (.value (.func 41)) #[(.tmp 33), (.tmp 34)] #[63, 27])) fun ty pos af => ?_
  have hOt : ∀ j, (Value.slice avv zs.length cvv).ownBlock = some j → p + 2 ≤ j ∧ j < top := fun j h => ⟨hOb j h, hOl j h⟩
  refine s_call (R := fun u w' => ((∃ z, u = tv z ∧ REx w' (AS A w64.heap.size) c.spH.ess z) ∧ Room w' br) ∧ Ktw br br w64 w') F [_, _] E41 rfl (by decide) (owned57 w64 br (by omega) A (fun k hk => by have := hA k hk; omega) c.spH yh (hrh.keep hB.size (fun k hk hb => hB.block k (hA k hk))) hR) ?_
  rintro _ w66 a ⟨⟨⟨z, rfl, hz0⟩, hR⟩, k67⟩ F
  have sk67 := k67.size
  have hB := k67.under hB (by omega)
  have m2 := m2.k2 k67 (by omega)
  have hD := hD.k2 k67 (by omega)
  have hP := hP.k2 k67 (fun k (hk : (((k < w0.heap.size ∧ A k) ∨ p + 2 ≤ k) ∧ k ≠ o3) ∧ k < top) => by omega)
  have hO := own_k2 hO k67 (fun c hc => by have := hOt c hc; omega)
  have hS := hS.trans k67 (by omega)
  have hz := RE.valid hz0
  clear hz0
  have hz : REx w66 (fun k => ((k < w0.heap.size ∧ A k) ∨ w64.heap.size ≤ k) ∧ k < w66.heap.size) c.spH.ess z := hz.mono (fun k hk => ⟨hk.1.elim (fun h => .inl ⟨hA k h, h⟩) .inr, hk.2⟩)
  have h1z9 := RE.one hz
  refine s_end ⟨hS, ?_⟩
  refine d1 4 none (.store 27 (.tmp 2) (.tmp 35)) fun ty pos af => ?_
  refine s_putW F rfl rfl (size_wide wide27) m2 rfl h1z9 fun w70 m2 o71 => ?_
  have so71 := o71.size
  have hB := hB.trans (o71.below (by omega))
  have hD := hD.only o71 (by omega)
  have hP := hP.only o71 (fun k (hk : (((k < w0.heap.size ∧ A k) ∨ p + 2 ≤ k) ∧ k ≠ o3) ∧ k < top) => by omega)
  have hO := own_only hO o71 (fun e => by have := hOt _ e; omega)
  have hz := hz.only o71 (fun k (hk : ((k < w0.heap.size ∧ A k) ∨ w64.heap.size ≤ k) ∧ k < w66.heap.size) => by omega)
  have hS := hS.only o71 (by omega)
  refine s_end ⟨hS, ?_⟩
  refine F.dv 5 3 (.assign (.tmp 36)) hS (fun W hW => x_assign rfl) fun a F => ?_
  refine d_end (by kernel_rfl) (hK13 _ _ ?_)
  have hrv : QT w70 (fun k => (((k < w0.heap.size ∧ A k) ∨ p + 2 ≤ k) ∧ k ≠ o3) ∧ k < top) zs.reverse (c.spA.reverse.map CT.ess) := by rw [List.map_reverse]; exact hP.rev
  refine wp_ret (resM F hD fun w9 o9 => ⟨run_cellt F rfl rfl rfl (m_loadW (cs := [_, _, _, _, _, _, _, _]) wide27 (m2.only o9 (by omega))), ⟨_, rfl, ⟨z, _, rfl, (RE.mono (B := AS A w0.heap.size) (fun k (hk : ((k < w0.heap.size ∧ A k) ∨ w64.heap.size ≤ k) ∧ k < w66.heap.size) => hk.1.elim (fun h => .inl h.2) (fun h => .inr (by omega))) (RE.only hz o9 (fun hk => by omega))), ((hrv.only o9 (fun k hk => by omega)).mono (B := AS A w0.heap.size) (fun k hk => hk.1.1.elim (fun h => .inl h.2) (fun h => .inr (by omega)))).rke (by have h := Rd.own (own_only hO o9 (fun e => by have := hOt _ e; omega)); simpa using h) (fun j h => .inr (by have := hOt j h; omega))⟩, hB.trans (o9.below (by omega))⟩⟩)
 ·
  rintro a c' W hI
  exact hI.elim
end Go.Proofs.Ytmkjhdiepkpdoaa

namespace Go.Proofs.Ytmkjhdiepkpdoaa
open Go.RowKit Go.Shelf
set_option linter.unusedVariables false
set_option linter.unusedSimpArgs false
end Go.Proofs.Ytmkjhdiepkpdoaa

namespace Go.Proofs.Ytmkjhdiepkpdoaa
open Go.RowKit Go.Shelf
set_option linter.unusedVariables false
set_option linter.unusedSimpArgs false
end Go.Proofs.Ytmkjhdiepkpdoaa

namespace Go.Proofs.Ytmkjhdiepkpdoaa
open Go.RowKit Go.Shelf
set_option linter.unusedVariables false
set_option linter.unusedSimpArgs false
end Go.Proofs.Ytmkjhdiepkpdoaa

namespace Go.Proofs.Ytmkjhdiepkpdoaa
open Go.RowKit Go.Shelf
set_option linter.unusedVariables false
set_option linter.unusedSimpArgs false
end Go.Proofs.Ytmkjhdiepkpdoaa

namespace Go.Proofs.Ytmkjhdiepkpdoaa
set_option maxRecDepth 100000
set_option maxHeartbeats 1600000
open Go.RowKit Go.Shelf
set_option linter.unusedVariables false
set_option linter.unusedSimpArgs false
def SL.kd : SL → Int
 | .num _ => 1
 | .var _ => 2
 | .succ _ _ => 3
 | .mx _ _ => 4
def SL.nn : SL → Int
 | .num n => n
 | .var n => n
 | .succ n _ => n
 | .mx _ _ => 0
theorem RS.kd {W : World} {s : SL} {k n : Int} {v : Value} (h : RS W s (k, n, v)) : k = s.kd ∧ (k ≠ 4 → n = s.nn) := by
 cases s with
 | num m => exact ⟨h.1, fun _ => h.2.1⟩
 | var m => exact ⟨h.1, fun _ => h.2.1⟩
 | succ m a => exact ⟨h.1, fun _ => h.2.1⟩
 | mx a b => exact ⟨h.1, fun h4 => absurd h.1 h4⟩
theorem SL.same_iff {s t : SL} : s = t ↔ s.kd = t.kd ∧ s.nn = t.nn ∧ s.kids = t.kids := by
 constructor
 ·
  rintro rfl; exact ⟨rfl, rfl, rfl⟩
 ·
  rintro ⟨h1, h2, h3⟩
  cases s <;> cases t <;> simp [SL.kd, SL.nn, SL.kids] at h1 h2 h3
  ·
   congr 1; omega
  ·
   congr 1; omega
  ·
   rw [h3]; congr 1; omega
  ·
   rw [h3.1, h3.2]
theorem SL.kd_len {s t : SL} (h : s.kd = t.kd) : s.kids.length = t.kids.length := by
 cases s <;> cases t <;> simp [SL.kd, SL.kids] at h ⊢
theorem SL.kd4 {s t : SL} (h : s.kd = 4) (h' : t.kd = 4) : s.nn = t.nn := by
 cases s <;> simp [SL.kd] at h
 cases t <;> simp [SL.kd] at h'
 rfl
theorem SL.kids_sum (s : SL) : (s.kids.map SL.size).sum + 1 = s.size := by cases s <;> simp [SL.kids, SL.size]
theorem sum_take {ks : List SL} {i : Nat} {t : SL} (h : ks[i]? = some t) : ((ks.take (i + 1)).map SL.size).sum = ((ks.take i).map SL.size).sum + t.size := by
 rw [List.take_add_one, h, List.map_append, List.sum_append]
 simp
theorem sum_le (ks : List SL) (i : Nat) : ((ks.take i).map SL.size).sum ≤ (ks.map SL.size).sum := by
 have : (ks.map SL.size).sum = ((ks.take i).map SL.size).sum + ((ks.drop i).map SL.size).sum := by rw [← List.sum_append, ← List.map_append, List.take_append_drop]
 omega
theorem same40 (w0 : World) (g : Nat) (hg : w0.heap.size ≤ g) : ∀ (N : Nat) (s t : SL) (x y : C3), s.size < N → RS w0 s x → RS w0 t y → ∀ (r : Nat) (w1 : World), r + s.size ≤ 5000 → Below w0.heap.size w0 w1 → Blk w1 g 3 [.int .i64 (r : Int)] →
    Calls Try.prog 86 #[lv x, lv y, .pointer (some ⟨g, 0, none⟩)] w1 fun e w' => ∃ u, e = .returned u ∧ (u = .bool (decide (s = t)) ∧ ∃ r' : Nat, r' ≤ r + s.size ∧ Blk w' g 3 [.int .i64 (r' : Int)]) ∧ Ktw g g w1 w' := by
  intro N
  induction N with
  | zero => intro s t x y h; omega
  | succ N ih =>
  rintro s t ⟨k, n, v⟩ ⟨k2, n2, v2⟩ hN hS hT r w1 hr hB mg
  obtain ⟨xs, hR, hl, hk⟩ := hS.kids
  obtain ⟨ys, hR2, hl2, hk2⟩ := hT.kids
  simp only at hR hR2
  obtain ⟨av, cv, rfl, _⟩ := hR.form
  obtain ⟨au, cu, rfl, _⟩ := hR2.form
  obtain ⟨e1, e2⟩ := hS.kd
  obtain ⟨e3, e4⟩ := hT.kd
  have hle := s.kids_le
  have hK := Ktw.refl g g w1
  have sB := hB.size
  have hgl := mg.lt
  have hsz : 1 ≤ s.size := by cases s <;> simp [SL.size]
  have hks := s.kids_sum
  refine calls_fs 63 [(0, .agg [.int .i64 k, .int .i64 n, .slice av xs.length cv].toArray), (1, .agg [.int .i64 k2, .int .i64 n2, .slice au ys.length cu].toArray), (2, .pointer (some ⟨g, 0, none⟩))] Try.func86 rfl rfl rfl rfl rfl fun a F => ?_
  refine wp_rs fun _ K1 => ?_
  refine s_box ([.int .i64 k, .int .i64 n, .slice av xs.length cv]) F (by decide) rfl rfl fun w2 b3 a eb3 m3 B3 zb3 F => ?_
  have sB3 := B3.size
  have hB := bt hB B3
  have hK := hK.below B3
  have mg := mg.old B3
  refine s_box ([.int .i64 k2, .int .i64 n2, .slice au ys.length cu]) F (by decide) rfl rfl fun w4 b4 a eb4 m4 B5 zb4 F => ?_
  have sB5 := B5.size
  have hB := bt hB B5
  have hK := hK.below B5
  have mg := mg.old B5
  have m3 := m3.old B5
  refine F.sg rfl fun a F => ?_
  refine s_end (K1 _ _ ?_)
  refine wp_seq_k fun _ K2 => ?_
  refine wp_rs fun _ K3 => F.mv rfl fun a F => F.vl (x_nil rfl) fun a F => F.ld mg flat3 rfl rfl fun a F => F.vl (x_addn (r + 1) (by omega) (by omega) rfl rfl) fun a F => F.vl (x_nil rfl) fun a F => ?_
  refine s_put F rfl rfl flat3 mg (by simp) rfl fun w6 mg o7 => ?_
  have so7 := o7.size
  have hB := hB.trans (o7.below (by omega))
  have hK := hK.only o7 (by omega)
  have m3 := m3.only o7 (by omega)
  have m4 := m4.only o7 (by omega)
  refine s_end (K3 _ _ ?_)
  refine wp_rs fun _ K4 => F.mv rfl fun a F => F.vl (x_nil rfl) fun a F => F.ld mg flat3 rfl rfl fun a F => F.vl (gtrF (by omega) rfl rfl) fun a F => ?_
  refine s_end (K4 _ _ ?_)
  refine wp_if F rfl ?_
  refine wp_skip (K2 _ _ ?_)
  refine wp_seq_k fun _ K5 => ?_
  rcases (show k ≠ k2 ∨ (k = k2 ∧ k ≠ 4 ∧ n ≠ n2) ∨ (k = k2 ∧ k ≠ 4 ∧ n = n2) ∨ (k = k2 ∧ k = 4) by omega) with hv | hv | hv | hv
  · skip
    refine wp_rs fun _ K7 => F.vl (x_fa0 fa24_0 rfl) fun a F => F.ld m3 flat3 rfl rfl fun a F => F.vl (x_fa0 fa24_0 rfl) fun a F => F.ld m4 flat3 rfl rfl fun a F => F.vl (neqT (by omega) rfl rfl) fun a F => F.mv rfl fun a F => s_grdn 22 F rfl rfl (by decide) fun a F => s_grdn 22 F rfl rfl (by decide) fun a F => s_grdn 22 F rfl rfl (by decide) fun a F => s_grdn 22 F rfl rfl (by decide) fun a F => s_grdu 26 F rfl rfl (by decide) fun a F => s_grdu 26 F rfl rfl (by decide) fun a F => s_grdu 26 F rfl rfl (by decide) fun a F => s_grdu 26 F rfl rfl (by decide) fun a F => s_grdu 26 F rfl rfl (by decide) fun a F => s_grdn 22 F rfl rfl (by decide) fun a F => F.vl (x_pick (b := true) rfl rfl) fun a F => F.mv rfl fun a F => s_grdn 34 F rfl rfl (by decide) fun a F => s_grdn 34 F rfl rfl (by decide) fun a F => s_grdn 34 F rfl rfl (by decide) fun a F => s_grdn 34 F rfl rfl (by decide) fun a F => s_grdn 34 F rfl rfl (by decide) fun a F => s_grdn 34 F rfl rfl (by decide) fun a F => s_grdn 34 F rfl rfl (by decide) fun a F => F.vl (x_pick (b := true) rfl rfl) fun a F => ?_
    refine s_end (K7 _ _ ?_)
    refine wp_if F rfl ?_
    refine wp_rs fun _ K8 => F.sg rfl fun a F => ?_
    refine s_end (K8 _ _ ?_)
    refine wp_ret (then_ret (res_slot F rfl rfl ⟨_, rfl, ⟨bool_of (decide_eq_false (fun h => by have := SL.same_iff.1 h; omega)).symm, r + 1, by omega, mg⟩, hK⟩))
  · skip
    refine wp_rs fun _ K9 => F.vl (x_fa0 fa24_0 rfl) fun a F => F.ld m3 flat3 rfl rfl fun a F => F.vl (x_fa0 fa24_0 rfl) fun a F => F.ld m4 flat3 rfl rfl fun a F => F.vl (neqF (by omega) rfl rfl) fun a F => F.mv rfl fun a F => s_grd 22 F rfl rfl rfl <| F.vl (x_fa0 fa24_0 rfl) fun a F => s_grd 22 F rfl rfl rfl <| F.ld m3 flat3 rfl rfl fun a F => s_grd 22 F rfl rfl rfl <| F.vl (neqT (by omega) rfl rfl) fun a F => s_grd 22 F rfl rfl rfl <| F.mv rfl fun a F => s_grd 26 F rfl rfl rfl <| F.vl (x_fa0 fa24_1 rfl) fun a F => s_grd 26 F rfl rfl rfl <| F.ld m3 flat3 rfl rfl fun a F => s_grd 26 F rfl rfl rfl <| F.vl (x_fa0 fa24_1 rfl) fun a F => s_grd 26 F rfl rfl rfl <| F.ld m4 flat3 rfl rfl fun a F => s_grd 26 F rfl rfl rfl <| F.vl (neqT (by omega) rfl rfl) fun a F => s_grd 22 F rfl rfl rfl <| F.vl (x_pick (b := true) rfl rfl) fun a F => F.vl (x_pick (b := false) rfl rfl) fun a F => F.mv rfl fun a F => s_grdn 34 F rfl rfl (by decide) fun a F => s_grdn 34 F rfl rfl (by decide) fun a F => ?_
    refine s_grdn 34 F rfl rfl (by decide) fun a F => s_grdn 34 F rfl rfl (by decide) fun a F => s_grdn 34 F rfl rfl (by decide) fun a F => s_grdn 34 F rfl rfl (by decide) fun a F => s_grdn 34 F rfl rfl (by decide) fun a F => F.vl (x_pick (b := true) rfl rfl) fun a F => ?_
    refine s_end (K9 _ _ ?_)
    refine wp_if F rfl ?_
    refine wp_rs fun _ K10 => F.sg rfl fun a F => ?_
    refine s_end (K10 _ _ ?_)
    refine wp_ret (then_ret (res_slot F rfl rfl ⟨_, rfl, ⟨bool_of (decide_eq_false (fun h => by have := SL.same_iff.1 h; have := e2 (by omega); have := e4 (by omega); omega)).symm, r + 1, by omega, mg⟩, hK⟩))
  · have hln := SL.kd_len (s := s) (t := t) (by omega)
    refine wp_rs fun _ K11 => F.vl (x_fa0 fa24_0 rfl) fun a F => F.ld m3 flat3 rfl rfl fun a F => F.vl (x_fa0 fa24_0 rfl) fun a F => F.ld m4 flat3 rfl rfl fun a F => F.vl (neqF (by omega) rfl rfl) fun a F => F.mv rfl fun a F => s_grd 22 F rfl rfl rfl <| F.vl (x_fa0 fa24_0 rfl) fun a F => s_grd 22 F rfl rfl rfl <| F.ld m3 flat3 rfl rfl fun a F => s_grd 22 F rfl rfl rfl <| F.vl (neqT (by omega) rfl rfl) fun a F => s_grd 22 F rfl rfl rfl <| F.mv rfl fun a F => s_grd 26 F rfl rfl rfl <| F.vl (x_fa0 fa24_1 rfl) fun a F => s_grd 26 F rfl rfl rfl <| F.ld m3 flat3 rfl rfl fun a F => s_grd 26 F rfl rfl rfl <| F.vl (x_fa0 fa24_1 rfl) fun a F => s_grd 26 F rfl rfl rfl <| F.ld m4 flat3 rfl rfl fun a F => s_grd 26 F rfl rfl rfl <| F.vl (neqF (by omega) rfl rfl) fun a F => s_grd 22 F rfl rfl rfl <| F.vl (x_pick (b := true) rfl rfl) fun a F => F.vl (x_pick (b := false) rfl rfl) fun a F => F.mv rfl fun a F => s_grd 34 F rfl rfl rfl <| F.vl (x_fa0 fa24_2 rfl) fun a F => ?_
    refine s_grd 34 F rfl rfl rfl <| F.ld m3 flat22 rfl rfl fun a F => s_grd 34 F rfl rfl rfl <| F.vl (x_len Try.underlying22 rfl) fun a F => s_grd 34 F rfl rfl rfl <| F.vl (x_fa0 fa24_2 rfl) fun a F => s_grd 34 F rfl rfl rfl <| F.ld m4 flat22 rfl rfl fun a F => s_grd 34 F rfl rfl rfl <| F.vl (x_len Try.underlying22 rfl) fun a F => s_grd 34 F rfl rfl rfl <| F.vl (neqF (by omega) rfl rfl) fun a F => F.vl (x_pick (b := false) rfl rfl) fun a F => ?_
    refine s_end (K11 _ _ ?_)
    refine wp_if F rfl ?_
    refine wp_skip (K5 _ _ ?_)
    refine wp_seq_k fun _ K12 => ?_
    refine wp_rs fun _ K13 => F.vl (x_fa0 fa24_2 rfl) fun a F => F.ld m3 flat22 rfl rfl fun a F => F.vl (x_len Try.underlying22 rfl) fun a F => F.mv rfl fun a F => ?_
    refine s_end (K13 _ _ ?_)
    refine wp_block ?_
    refine wp_up xs.length (fun i a w => ∃ ri : Nat, ri ≤ r + 1 + ((s.kids.take i).map SL.size).sum ∧ s.kids.take i = t.kids.take i ∧ Blk w g 3 [.int .i64 (ri : Int)] ∧ Blk w b3 24 [.int .i64 k, .int .i64 n, .slice av xs.length cv] ∧ Blk w b4 24 [.int .i64 k2, .int .i64 n2, .slice au ys.length cu] ∧ Below w0.heap.size w0 w ∧ Ktw g g w1 w ∧ Fs 63 a [(46, .int .i64 (i : Int)), (45, .int .i64 (xs.length : Int)), (2, .pointer (some ⟨g, 0, none⟩)), (3, .pointer (some ⟨b3, 0, none⟩)), (4, .pointer (some ⟨b4, 0, none⟩))]) ⟨r + 1, by omega, by simp, mg, m3, m4, hB, hK, F.sub _ rfl⟩ ?_
    have hbb : w1.heap.size ≤ b3 ∧ b3 < b4 ∧ g < b3 := ⟨by omega, by omega, by omega⟩
    repeat clear F
    clear hB hK mg m3 m4
    rintro i a w hi ⟨ri, hri, heq, mg, m3, m4, hB, hK, F⟩ K' hK'
    have sB := hB.size
    have sK := hK.size
    have hgl := mg.lt
    have hm4 := m4.lt
    have hsl := sum_le s.kids i
    refine wp_rs fun _ K14 => F.vl (x_lss rfl rfl rfl) fun a F => ?_
    refine s_end (K14 _ _ ?_)
    refine wp_seq_k fun _ K15 => ?_
    refine wp_iff F rfl (fun hc47 => ?_) (fun hc47 => ?_)
    · obtain ⟨b, off, c, y1, hve, hy1, hrow1⟩ := rd_row3 hR (i := i) (by omega)
      cases hve
      obtain ⟨b2, off2, c2, y2, hve, hy2, hrow2⟩ := rd_row3 hR2 (i := i) (by omega)
      cases hve
      obtain ⟨p, hp⟩ : ∃ p, s.kids[i]? = some p := ⟨_, List.getElem?_eq_getElem (by omega)⟩
      obtain ⟨q, hq⟩ : ∃ q, t.kids[i]? = some q := ⟨_, List.getElem?_eq_getElem (by omega)⟩
      have hps := SL.kids_size hp
      have hst := sum_take hp
      have hsl1 := sum_le s.kids (i + 1)
      refine wp_skip (K15 _ _ ?_)
      refine wp_seq_k fun _ K16 => ?_
      refine wp_block ?_
      refine wp_rs fun _ K17 => F.mv rfl fun a F => F.sg rfl fun a F => ?_
      refine s_end (K17 _ _ ?_)
      refine dk2_seq (g) (g) (ops := regOps Try.f86 9) (N := 13) (by kernel_rfl) wide_orders (by kernel_rfl) fun w8 hw8 B9 hS K18 hK18 => ?_
      have zw8 : w8.heap.size = w.heap.size := by rw [hw8]
      have sB9 := B9.size
      have hB := bt hB B9
      have hK := hK.below B9
      have mg := mg.old B9
      have m3 := m3.old B9
      have m4 := m4.old B9
      have mg_d := mg
      have m3_d := m3
      have m4_d := m4
      have hB_d := hB
      have hK_d := hK
      refine F.dv 0 49 (.fieldAddr 24 (.tmp 3) 2) hS (fun W hW => x_fa0 fa24_2 rfl) fun a F => F.dv 1 50 (.load 22 (.tmp 49)) hS (fun W hW => x_load rfl (m_load flat22 ((m3_d.k2 hW (by omega)).cell (j := 2) rfl))) fun a F => F.dv 2 51 (.move (.tmp 7)) hS (fun W hW => x_move rfl) fun a F => F.dv 3 52 (.indexAddr 22 (.tmp 50) (.tmp 51)) hS (fun W hW => x_ixa rfl rfl (m_ixsK i Try.underlying22 el22.size rfl (by omega))) fun a F => F.dv 4 53 (.load 24 (.tmp 52)) hS (fun W hW => x_ldA wide24 (hrow1 _ (hW.under hB_d (by omega))) rfl rfl) fun a F => F.dv 5 54 (.fieldAddr 24 (.tmp 4) 2) hS (fun W hW => x_fa0 fa24_2 rfl) fun a F => F.dv 6 55 (.load 22 (.tmp 54)) hS (fun W hW => x_load rfl (m_load flat22 ((m4_d.k2 hW (by omega)).cell (j := 2) rfl))) fun a F => F.dv 7 56 (.move (.tmp 7)) hS (fun W hW => x_move rfl) fun a F => F.dv 8 57 (.indexAddr 22 (.tmp 55) (.tmp 56)) hS (fun W hW => x_ixa rfl rfl (m_ixsK i Try.underlying22 el22.size rfl (by omega))) fun a F => F.dv 9 58 (.load 24 (.tmp 57)) hS (fun W hW => x_ldA wide24 (hrow2 _ (hW.under hB_d (by omega))) rfl rfl) fun a F => F.dv 10 59 (.move (.tmp 2)) hS (fun W hW => x_move rfl) fun a F => ?_
      refine d1 11 (some 60) (.call (.mk (.value (.func 86)) #[(.tmp 53), (.tmp 58), (.tmp 59)] #[24, 24, 62])) fun ty pos af => ?_
      refine s_call (R := fun u w' => (u = .bool (decide (p = q)) ∧ ∃ r' : Nat, r' ≤ ri + p.size ∧ Blk w' g 3 [.int .i64 (r' : Int)]) ∧ Ktw g g w8 w') F [_, _, _] E86 rfl (by decide) (ih p q y1 y2 (by omega) (hk i y1 p hy1 hp) (hk2 i y2 q hy2 hq) ri w8 (by omega) hB mg) ?_
      rintro _ w10 a ⟨⟨rfl, r2, hr2, mg⟩, k11⟩ F
      have sk11 := k11.size
      have hB := k11.under hB (by omega)
      have hK := hK.trans k11 (by omega)
      have m3 := m3.k2 k11 (by omega)
      have m4 := m4.k2 k11 (by omega)
      have hS := hS.trans k11 (by omega)
      refine s_end ⟨hS, ?_⟩
      refine F.dv 12 61 (.unOp .not 4 (.tmp 60)) hS (fun W hW => x_not rfl) fun a F => ?_
      refine d_end (by kernel_rfl) (hK18 _ _ ?_)
      refine wp_ifb F rfl (fun hc61 => ?_) (fun hc61 => ?_)
      · have hpq : ¬ p = q := by simpa using hc61
        refine wp_rs fun _ K19 => F.sg rfl fun a F => ?_
        refine s_end (K19 _ _ ?_)
        refine wp_ret (inb_ret (then_ret (then_ret (inb_ret (then_ret (res_slot F rfl rfl ⟨_, rfl, ⟨bool_of (decide_eq_false (fun h => hpq (by have h3 := (SL.same_iff.1 h).2.2; rw [h3, hq] at hp; exact (Option.some.inj hp).symm))).symm, r2, by omega, mg⟩, hK⟩))))))
      · have hpq : p = q := by simpa using hc61
        refine wp_skip (K16 _ _ ?_)
        refine wp_region_lit ?_
        refine F.vl (x_addn (i + 1) (by omega) (by omega) rfl rfl) fun a F => F.mv rfl fun a F => ?_
        have heq2 : s.kids.take (i + 1) = t.kids.take (i + 1) := by rw [List.take_add_one, List.take_add_one, heq, hp, hq, hpq]
        refine s_end (hK' _ _ (by omega) ⟨r2, by omega, heq2, mg, m3, m4, hB, hK, F.sub _ rfl⟩)
    · refine wp_exit (K12 _ _ ?_)
      refine wp_rs fun _ K20 => F.sg rfl fun a F => ?_
      refine s_end (K20 _ _ ?_)
      refine wp_ret (res_slot F rfl rfl ⟨_, rfl, ⟨bool_of (decide_eq_true (SL.same_iff.2 ⟨by omega, by have := e2 (by omega); have := e4 (by omega); omega, by rw [← List.take_of_length_le (l := s.kids) (i := i) (by omega), ← List.take_of_length_le (l := t.kids) (i := i) (by omega)]; exact heq⟩)).symm, ri, by omega, mg⟩, hK⟩)
  · have hln := SL.kd_len (s := s) (t := t) (by omega)
    refine wp_rs fun _ K21 => F.vl (x_fa0 fa24_0 rfl) fun a F => F.ld m3 flat3 rfl rfl fun a F => F.vl (x_fa0 fa24_0 rfl) fun a F => F.ld m4 flat3 rfl rfl fun a F => F.vl (neqF (by omega) rfl rfl) fun a F => F.mv rfl fun a F => s_grd 22 F rfl rfl rfl <| F.vl (x_fa0 fa24_0 rfl) fun a F => s_grd 22 F rfl rfl rfl <| F.ld m3 flat3 rfl rfl fun a F => s_grd 22 F rfl rfl rfl <| F.vl (neqF (by omega) rfl rfl) fun a F => s_grd 22 F rfl rfl rfl <| F.mv rfl fun a F => s_grdn 26 F rfl rfl (by decide) fun a F => s_grdn 26 F rfl rfl (by decide) fun a F => s_grdn 26 F rfl rfl (by decide) fun a F => s_grdn 26 F rfl rfl (by decide) fun a F => s_grdn 26 F rfl rfl (by decide) fun a F => s_grd 22 F rfl rfl rfl <| F.vl (x_pick (b := false) rfl rfl) fun a F => F.vl (x_pick (b := false) rfl rfl) fun a F => F.mv rfl fun a F => s_grd 34 F rfl rfl rfl <| F.vl (x_fa0 fa24_2 rfl) fun a F => s_grd 34 F rfl rfl rfl <| F.ld m3 flat22 rfl rfl fun a F => s_grd 34 F rfl rfl rfl <| F.vl (x_len Try.underlying22 rfl) fun a F => s_grd 34 F rfl rfl rfl ?_
    refine F.vl (x_fa0 fa24_2 rfl) fun a F => s_grd 34 F rfl rfl rfl <| F.ld m4 flat22 rfl rfl fun a F => s_grd 34 F rfl rfl rfl <| F.vl (x_len Try.underlying22 rfl) fun a F => s_grd 34 F rfl rfl rfl <| F.vl (neqF (by omega) rfl rfl) fun a F => F.vl (x_pick (b := false) rfl rfl) fun a F => ?_
    refine s_end (K21 _ _ ?_)
    refine wp_if F rfl ?_
    refine wp_skip (K5 _ _ ?_)
    refine wp_seq_k fun _ K22 => ?_
    refine wp_rs fun _ K23 => F.vl (x_fa0 fa24_2 rfl) fun a F => F.ld m3 flat22 rfl rfl fun a F => F.vl (x_len Try.underlying22 rfl) fun a F => F.mv rfl fun a F => ?_
    refine s_end (K23 _ _ ?_)
    refine wp_block ?_
    refine wp_up xs.length (fun i a w => ∃ ri : Nat, ri ≤ r + 1 + ((s.kids.take i).map SL.size).sum ∧ s.kids.take i = t.kids.take i ∧ Blk w g 3 [.int .i64 (ri : Int)] ∧ Blk w b3 24 [.int .i64 k, .int .i64 n, .slice av xs.length cv] ∧ Blk w b4 24 [.int .i64 k2, .int .i64 n2, .slice au ys.length cu] ∧ Below w0.heap.size w0 w ∧ Ktw g g w1 w ∧ Fs 63 a [(46, .int .i64 (i : Int)), (45, .int .i64 (xs.length : Int)), (2, .pointer (some ⟨g, 0, none⟩)), (3, .pointer (some ⟨b3, 0, none⟩)), (4, .pointer (some ⟨b4, 0, none⟩))]) ⟨r + 1, by omega, by simp, mg, m3, m4, hB, hK, F.sub _ rfl⟩ ?_
    have hbb : w1.heap.size ≤ b3 ∧ b3 < b4 ∧ g < b3 := ⟨by omega, by omega, by omega⟩
    repeat clear F
    clear hB hK mg m3 m4
    rintro i a w hi ⟨ri, hri, heq, mg, m3, m4, hB, hK, F⟩ K' hK'
    have sB := hB.size
    have sK := hK.size
    have hgl := mg.lt
    have hm4 := m4.lt
    have hsl := sum_le s.kids i
    refine wp_rs fun _ K24 => F.vl (x_lss rfl rfl rfl) fun a F => ?_
    refine s_end (K24 _ _ ?_)
    refine wp_seq_k fun _ K25 => ?_
    refine wp_iff F rfl (fun hc47 => ?_) (fun hc47 => ?_)
    · obtain ⟨b, off, c, y1, hve, hy1, hrow1⟩ := rd_row3 hR (i := i) (by omega)
      cases hve
      obtain ⟨b2, off2, c2, y2, hve, hy2, hrow2⟩ := rd_row3 hR2 (i := i) (by omega)
      cases hve
      obtain ⟨p, hp⟩ : ∃ p, s.kids[i]? = some p := ⟨_, List.getElem?_eq_getElem (by omega)⟩
      obtain ⟨q, hq⟩ : ∃ q, t.kids[i]? = some q := ⟨_, List.getElem?_eq_getElem (by omega)⟩
      have hps := SL.kids_size hp
      have hst := sum_take hp
      have hsl1 := sum_le s.kids (i + 1)
      refine wp_skip (K25 _ _ ?_)
      refine wp_seq_k fun _ K26 => ?_
      refine wp_block ?_
      refine wp_rs fun _ K27 => F.mv rfl fun a F => F.sg rfl fun a F => ?_
      refine s_end (K27 _ _ ?_)
      refine dk2_seq (g) (g) (ops := regOps Try.f86 9) (N := 13) (by kernel_rfl) wide_orders (by kernel_rfl) fun w12 hw12 B13 hS K28 hK28 => ?_
      have zw12 : w12.heap.size = w.heap.size := by rw [hw12]
      have sB13 := B13.size
      have hB := bt hB B13
      have hK := hK.below B13
      have mg := mg.old B13
      have m3 := m3.old B13
      have m4 := m4.old B13
      have mg_d := mg
      have m3_d := m3
      have m4_d := m4
      have hB_d := hB
      have hK_d := hK
      refine F.dv 0 49 (.fieldAddr 24 (.tmp 3) 2) hS (fun W hW => x_fa0 fa24_2 rfl) fun a F => F.dv 1 50 (.load 22 (.tmp 49)) hS (fun W hW => x_load rfl (m_load flat22 ((m3_d.k2 hW (by omega)).cell (j := 2) rfl))) fun a F => F.dv 2 51 (.move (.tmp 7)) hS (fun W hW => x_move rfl) fun a F => F.dv 3 52 (.indexAddr 22 (.tmp 50) (.tmp 51)) hS (fun W hW => x_ixa rfl rfl (m_ixsK i Try.underlying22 el22.size rfl (by omega))) fun a F => F.dv 4 53 (.load 24 (.tmp 52)) hS (fun W hW => x_ldA wide24 (hrow1 _ (hW.under hB_d (by omega))) rfl rfl) fun a F => F.dv 5 54 (.fieldAddr 24 (.tmp 4) 2) hS (fun W hW => x_fa0 fa24_2 rfl) fun a F => F.dv 6 55 (.load 22 (.tmp 54)) hS (fun W hW => x_load rfl (m_load flat22 ((m4_d.k2 hW (by omega)).cell (j := 2) rfl))) fun a F => F.dv 7 56 (.move (.tmp 7)) hS (fun W hW => x_move rfl) fun a F => F.dv 8 57 (.indexAddr 22 (.tmp 55) (.tmp 56)) hS (fun W hW => x_ixa rfl rfl (m_ixsK i Try.underlying22 el22.size rfl (by omega))) fun a F => F.dv 9 58 (.load 24 (.tmp 57)) hS (fun W hW => x_ldA wide24 (hrow2 _ (hW.under hB_d (by omega))) rfl rfl) fun a F => F.dv 10 59 (.move (.tmp 2)) hS (fun W hW => x_move rfl) fun a F => ?_
      refine d1 11 (some 60) (.call (.mk (.value (.func 86)) #[(.tmp 53), (.tmp 58), (.tmp 59)] #[24, 24, 62])) fun ty pos af => ?_
      refine s_call (R := fun u w' => (u = .bool (decide (p = q)) ∧ ∃ r' : Nat, r' ≤ ri + p.size ∧ Blk w' g 3 [.int .i64 (r' : Int)]) ∧ Ktw g g w12 w') F [_, _, _] E86 rfl (by decide) (ih p q y1 y2 (by omega) (hk i y1 p hy1 hp) (hk2 i y2 q hy2 hq) ri w12 (by omega) hB mg) ?_
      rintro _ w14 a ⟨⟨rfl, r2, hr2, mg⟩, k15⟩ F
      have sk15 := k15.size
      have hB := k15.under hB (by omega)
      have hK := hK.trans k15 (by omega)
      have m3 := m3.k2 k15 (by omega)
      have m4 := m4.k2 k15 (by omega)
      have hS := hS.trans k15 (by omega)
      refine s_end ⟨hS, ?_⟩
      refine F.dv 12 61 (.unOp .not 4 (.tmp 60)) hS (fun W hW => x_not rfl) fun a F => ?_
      refine d_end (by kernel_rfl) (hK28 _ _ ?_)
      refine wp_ifb F rfl (fun hc61 => ?_) (fun hc61 => ?_)
      · have hpq : ¬ p = q := by simpa using hc61
        refine wp_rs fun _ K29 => F.sg rfl fun a F => ?_
        refine s_end (K29 _ _ ?_)
        refine wp_ret (inb_ret (then_ret (then_ret (inb_ret (then_ret (res_slot F rfl rfl ⟨_, rfl, ⟨bool_of (decide_eq_false (fun h => hpq (by have h3 := (SL.same_iff.1 h).2.2; rw [h3, hq] at hp; exact (Option.some.inj hp).symm))).symm, r2, by omega, mg⟩, hK⟩))))))
      · have hpq : p = q := by simpa using hc61
        refine wp_skip (K26 _ _ ?_)
        refine wp_region_lit ?_
        refine F.vl (x_addn (i + 1) (by omega) (by omega) rfl rfl) fun a F => F.mv rfl fun a F => ?_
        have heq2 : s.kids.take (i + 1) = t.kids.take (i + 1) := by rw [List.take_add_one, List.take_add_one, heq, hp, hq, hpq]
        refine s_end (hK' _ _ (by omega) ⟨r2, by omega, heq2, mg, m3, m4, hB, hK, F.sub _ rfl⟩)
    · refine wp_exit (K22 _ _ ?_)
      refine wp_rs fun _ K30 => F.sg rfl fun a F => ?_
      refine s_end (K30 _ _ ?_)
      refine wp_ret (res_slot F rfl rfl ⟨_, rfl, ⟨bool_of (decide_eq_true (SL.same_iff.2 ⟨by omega, SL.kd4 (by omega) (by omega), by rw [← List.take_of_length_le (l := s.kids) (i := i) (by omega), ← List.take_of_length_le (l := t.kids) (i := i) (by omega)]; exact heq⟩)).symm, ri, by omega, mg⟩, hK⟩)
theorem Same18 (s t : SL) (x y : C3) (w0 : World) (hs : RS w0 s x) (ht : RS w0 t y) (hsz : s.size ≤ 5000) : Calls Try.prog 42 #[lv x, lv y] w0 fun e w' => e = .returned (.bool (decide (s = t))) ∧ Below w0.heap.size w0 w' := by
 have hB := Below.refl w0.heap.size w0
 have sB := hB.size
 refine calls_fs 9 [(0, lv x), (1, lv y)] Try.func42 rfl rfl rfl rfl rfl fun a F => ?_
 refine wp_rs fun _ K1 => ?_
 refine s_box (lc x) F (by decide) rfl rfl fun w2 b2 a eb2 m2 B3 zb2 F => ?_
 have sB3 := B3.size
 have hB := bt hB B3
 refine s_box (lc y) F (by decide) rfl rfl fun w4 b3 a eb3 m3 B5 zb3 F => ?_
 have sB5 := B5.size
 have hB := bt hB B5
 have m2 := m2.old B5
 refine F.sg rfl fun a F => ?_
 refine s_end (K1 _ _ ?_)
 refine wp_rs fun _ K2 => ?_
 refine s_alloc1 F (by decide) zero3 rfl fun w6 b5 a eb5 m5 B7 zb5 F => ?_
 have sB7 := B7.size
 have hB := bt hB B7
 have m2 := m2.old B7
 have m3 := m3.old B7
 refine s_put F rfl rfl flat3 m5 (by simp) rfl fun w8 m5 o9 => ?_
 have so9 := o9.size
 have hB := hB.trans (o9.below (by omega))
 have m2 := m2.only o9 (by omega)
 have m3 := m3.only o9 (by omega)
 refine s_end (K2 _ _ ?_)
 refine wp_rs fun _ K3 => F.vl (x_ldW wide24 m2 rfl rfl) fun a F => F.vl (x_ldW wide24 m3 rfl rfl) fun a F => ?_
 refine s_call (R := fun u w' => (u = .bool (decide (s = t)) ∧ ∃ r' : Nat, r' ≤ 0 + s.size ∧ Blk w' b5 3 [.int .i64 (r' : Int)]) ∧ Ktw b5 b5 w8 w') F [_, _, _] E86 rfl (by decide) (same40 w0 b5 (by omega) (s.size + 1) s t x y (by omega) hs ht 0 w8 (by omega) hB m5) ?_
 rintro _ w10 a ⟨⟨rfl, _⟩, k11⟩ F
 have sk11 := k11.size
 have hB := k11.under hB (by omega)
 refine F.sg rfl fun a F => ?_
 refine s_end (K3 _ _ ?_)
 refine wp_ret (res_slot F rfl rfl ⟨rfl, hB⟩)
end Go.Proofs.Ytmkjhdiepkpdoaa

namespace Go.Proofs.Ytmkjhdiepkpdoaa
open Go.RowKit Go.Shelf
set_option linter.unusedVariables false
set_option linter.unusedSimpArgs false
/-- n more than s. -/
def plusS (n : Nat) : SL → SL
 | .succ m a => .succ (cut (n + m)).toNat a
 | s => .succ n s
def awS : SL := .mx (.num 3) (.succ 1 (.var 0))
end Go.Proofs.Ytmkjhdiepkpdoaa

namespace Go.Proofs.Ytmkjhdiepkpdoaa
set_option linter.unusedVariables false
set_option linter.unusedSimpArgs false
/-! ### The greater of two, up to its form -/
theorem eqF.refl (a : SL) : eqF a a := ⟨rfl, rfl⟩
theorem eqF.symm {a b : SL} (h : eqF a b) : eqF b a := ⟨h.1.symm, h.2.symm⟩
theorem eqF.trans {a b c : SL} (h : eqF a b) (h' : eqF b c) : eqF a c := ⟨h.1.trans h'.1, h.2.trans h'.2⟩
theorem eqF.mx {a b c d : SL} (h : eqF a c) (h' : eqF b d) : eqF (.mx a b) (.mx c d) := nf_join h h'
/-! ### A form's level has that form -/
def kfs : List SL → Nat → Int
 | [], _ => -1
 | q :: qs, j => max (kf q 0 j) (kfs qs j)
def cfs : List SL → Int
 | [] => -1
 | q :: qs => max (cf q 0) (cfs qs)
/-! ### Values, where nothing is cut -/
def SL.tot : SL → Int
 | .num n => n
 | .var _ => 0
 | .succ n a => n + a.tot
 | .mx a b => max a.tot b.tot
theorem SL.tot_nn : ∀ (s : SL), 0 ≤ s.tot
 | .num n => by simp only [SL.tot]; omega
 | .var _ => by simp [SL.tot]
 | .succ n a => by have := a.tot_nn; simp only [SL.tot]; omega
 | .mx a b => by have := a.tot_nn; simp only [SL.tot]; omega
section
variable {ρ : Nat → Int} {B : Int}
theorem val_tot (hρ : ∀ j, 0 ≤ ρ j ∧ ρ j ≤ B) : ∀ (s : SL), s.tot + B ≤ 1099511627776 → 0 ≤ val s ρ ∧ val s ρ ≤ s.tot + B
 | .num n, h => by have := hρ 0; simp only [val, SL.tot] at *; omega
 | .var i, h => by have := hρ i; simp only [val, SL.tot] at *; omega
 | .succ n a, h => by
  simp only [SL.tot] at h ⊢
  have := val_tot hρ a (by omega)
  simp only [val, cut]
  omega
 | .mx a b, h => by
  simp only [SL.tot] at h ⊢
  have := val_tot hρ a (by omega)
  have := val_tot hρ b (by omega)
  simp only [val]
  omega
/-- The value is the greatest of what the leaves come to. -/
theorem val_is (hρ : ∀ j, 0 ≤ ρ j ∧ ρ j ≤ B) : ∀ (s : SL) (n : Int), 0 ≤ n → n + s.tot + B ≤ 1099511627776 → cf s n ≤ val s ρ + n ∧ (∀ j, 0 ≤ kf s n j → kf s n j + ρ j ≤ val s ρ + n) ∧ (val s ρ + n = cf s n ∨ ∃ j, 0 ≤ kf s n j ∧ val s ρ + n = kf s n j + ρ j)
 | .num m, n, h, h1 => by
  have hB := hρ 0
  simp only [SL.tot] at h1
  have e : cut (n + m) = n + m := by unfold cut; omega
  simp only [cf, val, kf, e]
  exact ⟨by omega, fun j hj => by omega, .inl (by omega)⟩
 | .var i, n, h, h1 => by
  have hB := hρ i
  refine ⟨by simp only [cf, val]; omega, fun j hj => ?_, .inr ⟨i, by simp [kf, h], by simp [kf, val]; omega⟩⟩
  simp only [kf, val] at hj ⊢
  split at hj
  ·
   next e => subst e; omega
  ·
   omega
 | .succ m a, n, h, h1 => by
  have hB := hρ 0
  have h2 := a.tot_nn
  simp only [SL.tot] at h1
  have e : cut (n + m) = n + m := by unfold cut; omega
  have hv := val_tot hρ a (by omega)
  have e2 : cut (m + val a ρ) = m + val a ρ := by unfold cut; omega
  obtain ⟨g1, g2, g3⟩ := val_is hρ a (n + m) (by omega) (by omega)
  simp only [cf, kf, val, e, e2]
  refine ⟨by omega, fun j hj => by have := g2 j hj; omega, ?_⟩
  rcases g3 with g3 | ⟨j, g3, g4⟩
  ·
   exact .inl (by omega)
  ·
   exact .inr ⟨j, g3, by omega⟩
 | .mx a b, n, h, h1 => by
  simp only [SL.tot] at h1
  obtain ⟨a1, a2, a3⟩ := val_is hρ a n h (by omega)
  obtain ⟨b1, b2, b3⟩ := val_is hρ b n h (by omega)
  simp only [cf, kf, val]
  refine ⟨by omega, fun j hj => ?_, ?_⟩
  ·
   have h3 := a2 j
   have h4 := b2 j
   omega
  ·
   have h5 : ∀ j, 0 ≤ kf a n j → 0 ≤ kf a n j → kf a n j + ρ j ≤ val a ρ + n := fun j hj _ => a2 j hj
   by_cases hc : val b ρ ≤ val a ρ
   ·
    rcases a3 with a3 | ⟨j, a3, a4⟩
    ·
     left; omega
    ·
     right
     refine ⟨j, by omega, ?_⟩
     have := b2 j
     omega
   ·
    rcases b3 with b3 | ⟨j, b3, b4⟩
    ·
     left; omega
    ·
     right
     refine ⟨j, by omega, ?_⟩
     have := a2 j
     omega
/-- The same, by the form. -/
def VF (ρ : Nat → Int) (c : Int) (K : List Int) (v : Int) : Prop := c ≤ v ∧ (∀ j, 0 ≤ gt K j → gt K j + ρ j ≤ v) ∧ (v = c ∨ ∃ j, 0 ≤ gt K j ∧ v = gt K j + ρ j)
theorem VF.one {c : Int} {K : List Int} {v v' : Int} (h : VF ρ c K v) (h' : VF ρ c K v') : v = v' := by
 obtain ⟨a1, a2, a3⟩ := h
 obtain ⟨b1, b2, b3⟩ := h'
 rcases a3 with a3 | ⟨j, a3, a4⟩
 ·
  rcases b3 with b3 | ⟨i, b3, b4⟩
  ·
   omega
  ·
   have := a2 i b3; omega
 ·
  have := b2 j a3
  rcases b3 with b3 | ⟨i, b3, b4⟩
  ·
   omega
  ·
   have := a2 i b3; omega
theorem val_nf (hρ : ∀ j, 0 ≤ ρ j ∧ ρ j ≤ B) {s : SL} (h : s.tot + B ≤ 1099511627776) : VF ρ (nfC s) (nfK s) (val s ρ) := by
 obtain ⟨g1, g2, g3⟩ := val_is hρ s 0 (by decide) (by omega)
 have hv := val_tot hρ s h
 have hi := nfC_is s
 rw [Int.add_zero] at g1 g3
 refine ⟨by omega, fun j hj => by rw [gt_nfK] at hj ⊢; have := g2 j hj; omega, ?_⟩
 rcases hi with ⟨i1, i2⟩ | ⟨i1, i2⟩
 ·
  rcases g3 with g3 | ⟨j, g3, g4⟩
  ·
   have h0 : 0 ≤ km s 0 := by omega
   rcases km_kf s 0 (by decide) with hk | ⟨j, hk⟩
   ·
    omega
   ·
    right
    refine ⟨j, by rw [gt_nfK]; omega, ?_⟩
    have := g2 j (by omega)
    have := hρ j
    rw [gt_nfK]
    omega
  ·
   exact .inr ⟨j, by rw [gt_nfK]; exact g3, by rw [gt_nfK]; omega⟩
 ·
  rcases g3 with g3 | ⟨j, g3, g4⟩
  ·
   exact .inl (by omega)
  ·
   exact .inr ⟨j, by rw [gt_nfK]; exact g3, by rw [gt_nfK]; omega⟩
theorem eqF.val (hρ : ∀ j, 0 ≤ ρ j ∧ ρ j ≤ B) {s t : SL} (h : eqF s t) (hs : s.tot + B ≤ 1099511627776) (ht : t.tot + B ≤ 1099511627776) : val s ρ = val t ρ := by
 have h1 := val_nf hρ hs
 have h2 := val_nf hρ ht
 rw [h.1, h.2] at h1
 exact h1.one h2
theorem leS.val (hρ : ∀ j, 0 ≤ ρ j ∧ ρ j ≤ B) {s t : SL} (h : leS s t) (hs : s.tot + B ≤ 1099511627776) (ht : t.tot + B ≤ 1099511627776) : val s ρ ≤ val t ρ := by
 have := eqF.val hρ h (by simp only [SL.tot]; omega) ht
 simp only [Ytmkjhdiepkpdoaa.val] at this
 omega
end
/-- Where one variable alone is great. -/
def oneAt (i : Nat) (j : Nat) : Int := if j = i then 34359738368 else 0
end Go.Proofs.Ytmkjhdiepkpdoaa

namespace Go.Proofs.Ytmkjhdiepkpdoaa
open Go.RowKit Go.Shelf
set_option linter.unusedVariables false
set_option linter.unusedSimpArgs false
/-- A level with levels in the place of its variables, up to the ith. -/
def instT (c : Int) (ks : List Int) (τ : Nat → SL) : Nat → SL
 | 0 => .num c.toNat
 | i + 1 => if gt ks i = -1 then instT c ks τ i else .mx (instT c ks τ i) (.succ (gt ks i).toNat (τ i))
/-- One that takes a place and is not sound. -/
def bad (ls : List Lv) (K : List Int) (i : Nat) : Prop := i < K.length ∧ gt K i ≠ -1 ∧ ∃ l, ls[i]? = some l ∧ ¬ sndL l
end Go.Proofs.Ytmkjhdiepkpdoaa

namespace Go.Proofs.Ytmkjhdiepkpdoaa
open Go.RowKit Go.Shelf
set_option linter.unusedVariables false
set_option linter.unusedSimpArgs false
end Go.Proofs.Ytmkjhdiepkpdoaa

namespace Go.Proofs.Ytmkjhdiepkpdoaa
open Go.RowKit Go.Shelf
set_option linter.unusedVariables false
set_option linter.unusedSimpArgs false
/-- s with τ's levels in the place of its variables, reduced. -/
def iS (s : SL) (τ : Nat → SL) : SL := levF (nfC (instT (nfC s) (nfK s) τ (nfK s).length)) (nfK (instT (nfC s) (nfK s) τ (nfK s).length))
noncomputable def goodO (t : SL) : Option SL := @ite _ t.good (Classical.propDecidable _) (some t) none
noncomputable def instO (lvs : List Lv) (τ : Nat → SL) : Option SL → Option SL
 | some s => @ite _ (∃ i, bad lvs (nfK s) i) (Classical.propDecidable _) none (goodO (iS s τ))
 | none => none
/-- What is put in for variables. -/
structure Tau (W : World) (v : Value) (xs : List C3) (lvs : List Lv) (τ : Nat → SL) : Prop where
 hV : Rd W v 3 xs.length (xs.flatMap lc)
 hls : xs.length = lvs.length
 hl : ∀ (i : Nat) x l, xs[i]? = some x → lvs[i]? = some l → RL W x l
 ht : ∀ (i : Nat) x l, xs[i]? = some x → lvs[i]? = some l → sndL l → RS W (τ i) x ∧ (τ i).good
 ht2 : ∀ i, xs.length ≤ i → τ i = .var i
theorem Tau.below {W W' : World} {v : Value} {xs : List C3} {lvs : List Lv} {τ : Nat → SL} (h : Tau W v xs lvs τ) (hB : Below W.heap.size W W') : Tau W' v xs lvs τ :=
 ⟨h.hV.below hB, h.hls, fun i x l e1 e2 => (h.hl i x l e1 e2).old hB, fun i x l e1 e2 e3 => ⟨RS.below hB (h.ht i x l e1 e2 e3).1, (h.ht i x l e1 e2 e3).2⟩, h.ht2⟩
theorem Tau.bel {w0 W : World} {v : Value} {xs : List C3} {lvs : List Lv} {τ : Nat → SL} (h : Tau w0 v xs lvs τ) (hB : Below w0.heap.size w0 W) : Tau W v xs lvs τ := h.below hB
end Go.Proofs.Ytmkjhdiepkpdoaa

namespace Go.Proofs.Ytmkjhdiepkpdoaa
open Go.RowKit Go.Shelf
set_option linter.unusedVariables false
set_option linter.unusedSimpArgs false
noncomputable def Gi (lvs : List Lv) (τ : Nat → SL) (c : CT) (d : Int) (ps : List PT) : PT := match c with
 | .sort l _ => .sort (instO lvs τ (slO l))
 | .cst s ls _ => .cst s (ls.map fun l => instO lvs τ (slO l))
 | c => nodeP c ps
noncomputable def PT.instL (lvs : List Lv) (τ : Nat → SL) : PT → PT
 | .var n => .var n
 | .sort o => .sort (instO lvs τ o)
 | .cst s os => .cst s (os.map (instO lvs τ))
 | .two k p q => .two k (p.instL lvs τ) (q.instL lvs τ)
 | .lt p q r => .lt (p.instL lvs τ) (q.instL lvs τ) (r.instL lvs τ)
 | .odd k => .odd k
/-- No constant has very many levels. -/
def CT.lvB : CT → Prop
 | .cst _ ls _ => ls.length ≤ 100000000
 | .two _ a b _ => a.lvB ∧ b.lvB
 | .lt a b c _ => a.lvB ∧ b.lvB ∧ c.lvB
 | _ => True
end Go.Proofs.Ytmkjhdiepkpdoaa

namespace Go.Proofs.Ytmkjhdiepkpdoaa
open Go.RowKit Go.Shelf
set_option linter.unusedVariables false
set_option linter.unusedSimpArgs false
def atL (vs : List Int) : List Int := vs.map fun z => max 0 (min z 1073741824)
def innerL (τ : Nat → SL) (A : List Int) (n : Nat) : List Int := (List.range n).map fun j => val (τ j) (rho A)
end Go.Proofs.Ytmkjhdiepkpdoaa

namespace Go.Proofs.Ytmkjhdiepkpdoaa
set_option linter.unusedVariables false
set_option linter.unusedSimpArgs false
/-- s with τ's levels in the place of its variables, reduced. -/
def iQ (s : SL) (τ : Nat → SL) : SL := levF (nfC (instT (nfC s) (nfK s) τ (nfK s).length)) (nfK (instT (nfC s) (nfK s) τ (nfK s).length))
/-- Its variables are below V. -/
def SL.vb (V : Nat) : SL → Prop
 | .num _ => True
 | .var i => i < V
 | .succ _ a => a.vb V
 | .mx a b => a.vb V ∧ b.vb V
/-- What a part of a normal form is. -/
def ptP (V : Nat) (B : Int) (p : SL) : Prop := p.size ≤ 2 ∧ p.dep ≤ 2 ∧ p.nums 1099511627776 1001 ∧ p.vb V
end Go.Proofs.Ytmkjhdiepkpdoaa

namespace Go.Proofs.Ytmkjhdiepkpdoaa
open Go.RowKit Go.Shelf
set_option linter.unusedVariables false
set_option linter.unusedSimpArgs false
def lv6 (l : Lv) : Prop := (chk 32 1048576 6 1 100 l).1 = 0
/-- What is put in is not great. -/
structure Fine (lvs : List Lv) (τ : Nat → SL) (T : Int) : Prop where
 snd : ∀ l ∈ lvs, sndL l
 tot : ∀ j, (τ j).tot ≤ T
 vb : ∀ j, j < 6 → (τ j).vb 6
section
variable {lu lw lb : List Lv} {τ σ β : Nat → SL}
end
def PT.lvP : PT → Prop
 | .cst _ os => os.length ≤ 100000000
 | .two _ a b => a.lvP ∧ b.lvP
 | .lt a b c => a.lvP ∧ b.lvP ∧ c.lvP
 | _ => True
end Go.Proofs.Ytmkjhdiepkpdoaa

namespace Go.Proofs.Ytmkjhdiepkpdoaa
open Go.RowKit Go.Shelf
set_option linter.unusedVariables false
set_option linter.unusedSimpArgs false
theorem RE_list {W : World} {A : Nat → Prop} : ∀ (xs : List C8) (ps : List PT), xs.length = ps.length → (∀ (i : Nat) x p, xs[i]? = some x → ps[i]? = some p → RE W A p x) → ∃ cs : List CT, xs.length = cs.length ∧ (∀ (i : Nat) x c, xs[i]? = some x → cs[i]? = some c → RC W A c x) ∧ cs.map CT.ess = ps
 | [], [], _, _ => ⟨[], rfl, (fun i x c h => by simp at h), rfl⟩
 | [], _ :: _, h, _ => by simp at h
 | _ :: _, [], h, _ => by simp at h
 | x :: xs, p :: ps, hl, h => by
  obtain ⟨c, hc, he⟩ := h 0 x p rfl rfl
  obtain ⟨cs, h1, h2, h3⟩ := RE_list xs ps (by simpa using hl) (fun i y q e1 e2 => h (i + 1) y q (by simpa using e1) (by simpa using e2))
  refine ⟨c :: cs, by simp [h1], fun i y d e1 e2 => ?_, by simp [h3, he]⟩
  cases i with
  | zero => simp at e1 e2; subst e1 e2; exact hc
  | succ i => exact h2 i y d (by simpa using e1) (by simpa using e2)
theorem RKE.rk {W : World} {A : Nat → Prop} {v : Value} {ps : List PT} : RKE W A v ps → ∃ cs, RK W A v cs ∧ cs.map CT.ess = ps := fun ⟨xs, h1, h2, h3⟩ => let ⟨cs, g1, g2, g3⟩ := RE_list xs ps h2 h3; ⟨cs, ⟨xs, h1, g1, g2⟩, g3⟩
theorem RK.valid {W : World} {A : Nat → Prop} {v : Value} {cs : List CT} : RK W A v cs → RK W (fun k => A k ∧ k < W.heap.size) v cs := fun ⟨xs, h1, h2, h3⟩ => ⟨xs, h1.lt, h2, fun i x c e1 e2 => (h3 i x c e1 e2).valid⟩
theorem RK.bel {w W : World} {v : Value} {cs : List CT} (hB : Below w.heap.size w W) : RK w (fun k => k < w.heap.size) v cs → RK W (fun k => k < W.heap.size) v cs := fun ⟨xs, h1, h2, h3⟩ => ⟨xs, (h1.keep hB.size (fun k hk _ => hB.block k hk)).mono (fun k hk => Nat.lt_of_lt_of_le hk hB.size), h2, fun i x c e1 e2 => (h3 i x c e1 e2).bel hB⟩
end Go.Proofs.Ytmkjhdiepkpdoaa

namespace Go.Proofs.Ytmkjhdiepkpdoaa
set_option maxRecDepth 100000
set_option maxHeartbeats 1600000
open Go.RowKit Go.Shelf
set_option linter.unusedVariables false
set_option linter.unusedSimpArgs false
section
variable {P : Program} {n : Nat} {l : List (Nat × Value)} {w : World}
theorem x_addw {t t' : TypeId} {x y : Operand} {p q : Int} (hx : ov l x = some (.int .i64 p)) (hy : ov l y = some (.int .i64 q)) : Runs P n l w (.binOp .add t x y t') (.int .i64 (IntKind.i64.wrap (p + q))) :=
 x_bin hx hy (b_int fun W => by simp [binOp, Op.intArith])
end
noncomputable def Lv.szo (l : Lv) : Nat := _root_.SizeOf.sizeOf l
theorem Lv.memo_size {k n : Int} {ls : List Lv} {i : Nat} {l : Lv} (h : ls[i]? = some l) : l.szo < (Lv.mk k n ls).szo := by
 have := List.sizeOf_lt_of_mem (List.mem_of_getElem? h)
 simp only [Lv.szo, Lv.mk.sizeOf_spec]
 omega
theorem sameg103 (w0 : World) (g : Nat) (hg : w0.heap.size ≤ g) : ∀ (N : Nat) (la lb : Lv) (x y : C3), la.szo < N → RL w0 x la → RL w0 y lb → ∀ (r : Int) (w1 : World), Below w0.heap.size w0 w1 → Blk w1 g 3 [.int .i64 r] →
    Calls Try.prog 86 #[lv x, lv y, .pointer (some ⟨g, 0, none⟩)] w1 fun e w' => ∃ u, e = .returned u ∧ ((∃ b, u = .bool b) ∧ ∃ r', Blk w' g 3 [.int .i64 r']) ∧ Ktw g g w1 w' := by
  intro N
  induction N with
  | zero => intro s t x y h; omega
  | succ N ih =>
  rintro la lb x y hN hS hT r w1 hB mg
  cases hS with
  | @mk k n v xs ls hR hl hk hbd1 =>
  cases hT with
  | @mk k2 n2 v2 ys ls2 hR2 hl2 hk2 hbd2 =>
  obtain ⟨av, cv, rfl, _⟩ := hR.form
  obtain ⟨au, cu, rfl, _⟩ := hR2.form
  have hK := Ktw.refl g g w1
  have sB := hB.size
  have hgl := mg.lt
  refine calls_fs 63 [(0, .agg [.int .i64 k, .int .i64 n, .slice av xs.length cv].toArray), (1, .agg [.int .i64 k2, .int .i64 n2, .slice au ys.length cu].toArray), (2, .pointer (some ⟨g, 0, none⟩))] Try.func86 rfl rfl rfl rfl rfl fun a F => ?_
  refine wp_rs fun _ K1 => ?_
  refine s_box ([.int .i64 k, .int .i64 n, .slice av xs.length cv]) F (by decide) rfl rfl fun w2 b3 a eb3 m3 B3 zb3 F => ?_
  have sB3 := B3.size
  have hB := bt hB B3
  have hK := hK.below B3
  have mg := mg.old B3
  refine s_box ([.int .i64 k2, .int .i64 n2, .slice au ys.length cu]) F (by decide) rfl rfl fun w4 b4 a eb4 m4 B5 zb4 F => ?_
  have sB5 := B5.size
  have hB := bt hB B5
  have hK := hK.below B5
  have mg := mg.old B5
  have m3 := m3.old B5
  refine F.sg rfl fun a F => ?_
  refine s_end (K1 _ _ ?_)
  refine wp_seq_k fun _ K2 => ?_
  refine wp_rs fun _ K3 => F.mv rfl fun a F => F.vl (x_nil rfl) fun a F => F.ld mg flat3 rfl rfl fun a F => F.vl (x_addw rfl rfl) fun a F => F.vl (x_nil rfl) fun a F => ?_
  refine s_put F rfl rfl flat3 mg (by first | (simp; done) | (simp [tc, lc]; done) | decide) rfl fun w6 mg o7 => ?_
  have so7 := o7.size
  have hB := hB.trans (o7.below (by omega))
  have hK := hK.only o7 (by omega)
  have m3 := m3.only o7 (by omega)
  have m4 := m4.only o7 (by omega)
  refine s_end (K3 _ _ ?_)
  refine wp_rs fun _ K4 => F.mv rfl fun a F => F.vl (x_nil rfl) fun a F => F.ld mg flat3 rfl rfl fun a F => F.vl (x_gtr rfl rfl rfl) fun a F => ?_
  refine s_end (K4 _ _ ?_)
  refine wp_iff F rfl (fun hc16 => ?_) (fun hc16 => ?_)
  · refine wp_rs fun _ K5 => ?_
    refine F.sg rfl fun a F => ?_
    refine s_end (K5 _ _ ?_)
    refine wp_ret (then_ret (res_slot F rfl rfl ⟨_, rfl, ⟨⟨_, rfl⟩, _, mg⟩, hK⟩))
  · refine wp_skip (K2 _ _ ?_)
    refine wp_seq_k fun _ K6 => ?_
    rcases (show k ≠ k2 ∨ (k = k2 ∧ k ≠ 4 ∧ n ≠ n2) ∨ (k = k2 ∧ k ≠ 4 ∧ n = n2 ∧ xs.length ≠ ys.length) ∨ (k = k2 ∧ k ≠ 4 ∧ n = n2 ∧ xs.length = ys.length) ∨ (k = k2 ∧ k = 4 ∧ xs.length ≠ ys.length) ∨ (k = k2 ∧ k = 4 ∧ xs.length = ys.length) by omega) with hv | hv | hv | hv | hv | hv
    · skip
      refine wp_rs fun _ K8 => F.vl (x_fa0 fa24_0 rfl) fun a F => F.ld m3 flat3 rfl rfl fun a F => F.vl (x_fa0 fa24_0 rfl) fun a F => F.ld m4 flat3 rfl rfl fun a F => F.vl (neqT (by omega) rfl rfl) fun a F => F.mv rfl fun a F => s_grdn 22 F rfl rfl (by decide) fun a F => s_grdn 22 F rfl rfl (by decide) fun a F => s_grdn 22 F rfl rfl (by decide) fun a F => s_grdn 22 F rfl rfl (by decide) fun a F => s_grdu 26 F rfl rfl (by decide) fun a F => s_grdu 26 F rfl rfl (by decide) fun a F => s_grdu 26 F rfl rfl (by decide) fun a F => s_grdu 26 F rfl rfl (by decide) fun a F => s_grdu 26 F rfl rfl (by decide) fun a F => s_grdn 22 F rfl rfl (by decide) fun a F => F.vl (x_pick (b := true) rfl rfl) fun a F => F.mv rfl fun a F => s_grdn 34 F rfl rfl (by decide) fun a F => s_grdn 34 F rfl rfl (by decide) fun a F => s_grdn 34 F rfl rfl (by decide) fun a F => s_grdn 34 F rfl rfl (by decide) fun a F => s_grdn 34 F rfl rfl (by decide) fun a F => s_grdn 34 F rfl rfl (by decide) fun a F => s_grdn 34 F rfl rfl (by decide) fun a F => F.vl (x_pick (b := true) rfl rfl) fun a F => ?_
      refine s_end (K8 _ _ ?_)
      refine wp_if F rfl ?_
      refine wp_rs fun _ K9 => F.sg rfl fun a F => ?_
      refine s_end (K9 _ _ ?_)
      refine wp_ret (then_ret (res_slot F rfl rfl ⟨_, rfl, ⟨⟨_, rfl⟩, _, mg⟩, hK⟩))
    · skip
      refine wp_rs fun _ K10 => F.vl (x_fa0 fa24_0 rfl) fun a F => F.ld m3 flat3 rfl rfl fun a F => F.vl (x_fa0 fa24_0 rfl) fun a F => F.ld m4 flat3 rfl rfl fun a F => F.vl (neqF (by omega) rfl rfl) fun a F => F.mv rfl fun a F => s_grd 22 F rfl rfl rfl <| F.vl (x_fa0 fa24_0 rfl) fun a F => s_grd 22 F rfl rfl rfl <| F.ld m3 flat3 rfl rfl fun a F => s_grd 22 F rfl rfl rfl <| F.vl (neqT (by omega) rfl rfl) fun a F => s_grd 22 F rfl rfl rfl <| F.mv rfl fun a F => s_grd 26 F rfl rfl rfl <| F.vl (x_fa0 fa24_1 rfl) fun a F => s_grd 26 F rfl rfl rfl <| F.ld m3 flat3 rfl rfl fun a F => s_grd 26 F rfl rfl rfl <| F.vl (x_fa0 fa24_1 rfl) fun a F => s_grd 26 F rfl rfl rfl <| F.ld m4 flat3 rfl rfl fun a F => s_grd 26 F rfl rfl rfl <| F.vl (neqT (by omega) rfl rfl) fun a F => s_grd 22 F rfl rfl rfl <| F.vl (x_pick (b := true) rfl rfl) fun a F => F.vl (x_pick (b := false) rfl rfl) fun a F => F.mv rfl fun a F => s_grdn 34 F rfl rfl (by decide) fun a F => s_grdn 34 F rfl rfl (by decide) fun a F => ?_
      refine s_grdn 34 F rfl rfl (by decide) fun a F => s_grdn 34 F rfl rfl (by decide) fun a F => s_grdn 34 F rfl rfl (by decide) fun a F => s_grdn 34 F rfl rfl (by decide) fun a F => s_grdn 34 F rfl rfl (by decide) fun a F => F.vl (x_pick (b := true) rfl rfl) fun a F => ?_
      refine s_end (K10 _ _ ?_)
      refine wp_if F rfl ?_
      refine wp_rs fun _ K11 => F.sg rfl fun a F => ?_
      refine s_end (K11 _ _ ?_)
      refine wp_ret (then_ret (res_slot F rfl rfl ⟨_, rfl, ⟨⟨_, rfl⟩, _, mg⟩, hK⟩))
    · skip
      refine wp_rs fun _ K12 => F.vl (x_fa0 fa24_0 rfl) fun a F => F.ld m3 flat3 rfl rfl fun a F => F.vl (x_fa0 fa24_0 rfl) fun a F => F.ld m4 flat3 rfl rfl fun a F => F.vl (neqF (by omega) rfl rfl) fun a F => F.mv rfl fun a F => s_grd 22 F rfl rfl rfl <| F.vl (x_fa0 fa24_0 rfl) fun a F => s_grd 22 F rfl rfl rfl <| F.ld m3 flat3 rfl rfl fun a F => s_grd 22 F rfl rfl rfl <| F.vl (neqT (by omega) rfl rfl) fun a F => s_grd 22 F rfl rfl rfl <| F.mv rfl fun a F => s_grd 26 F rfl rfl rfl <| F.vl (x_fa0 fa24_1 rfl) fun a F => s_grd 26 F rfl rfl rfl <| F.ld m3 flat3 rfl rfl fun a F => s_grd 26 F rfl rfl rfl <| F.vl (x_fa0 fa24_1 rfl) fun a F => s_grd 26 F rfl rfl rfl <| F.ld m4 flat3 rfl rfl fun a F => s_grd 26 F rfl rfl rfl <| F.vl (neqF (by omega) rfl rfl) fun a F => s_grd 22 F rfl rfl rfl <| F.vl (x_pick (b := true) rfl rfl) fun a F => F.vl (x_pick (b := false) rfl rfl) fun a F => F.mv rfl fun a F => s_grd 34 F rfl rfl rfl <| F.vl (x_fa0 fa24_2 rfl) fun a F => ?_
      refine s_grd 34 F rfl rfl rfl <| F.ld m3 flat22 rfl rfl fun a F => s_grd 34 F rfl rfl rfl <| F.vl (x_len Try.underlying22 rfl) fun a F => s_grd 34 F rfl rfl rfl <| F.vl (x_fa0 fa24_2 rfl) fun a F => s_grd 34 F rfl rfl rfl <| F.ld m4 flat22 rfl rfl fun a F => s_grd 34 F rfl rfl rfl <| F.vl (x_len Try.underlying22 rfl) fun a F => s_grd 34 F rfl rfl rfl <| F.vl (neqT (by omega) rfl rfl) fun a F => F.vl (x_pick (b := false) rfl rfl) fun a F => ?_
      refine s_end (K12 _ _ ?_)
      refine wp_if F rfl ?_
      refine wp_rs fun _ K13 => F.sg rfl fun a F => ?_
      refine s_end (K13 _ _ ?_)
      refine wp_ret (then_ret (res_slot F rfl rfl ⟨_, rfl, ⟨⟨_, rfl⟩, _, mg⟩, hK⟩))
    · skip
      refine wp_rs fun _ K14 => F.vl (x_fa0 fa24_0 rfl) fun a F => F.ld m3 flat3 rfl rfl fun a F => F.vl (x_fa0 fa24_0 rfl) fun a F => F.ld m4 flat3 rfl rfl fun a F => F.vl (neqF (by omega) rfl rfl) fun a F => F.mv rfl fun a F => s_grd 22 F rfl rfl rfl <| F.vl (x_fa0 fa24_0 rfl) fun a F => s_grd 22 F rfl rfl rfl <| F.ld m3 flat3 rfl rfl fun a F => s_grd 22 F rfl rfl rfl <| F.vl (neqT (by omega) rfl rfl) fun a F => s_grd 22 F rfl rfl rfl <| F.mv rfl fun a F => s_grd 26 F rfl rfl rfl <| F.vl (x_fa0 fa24_1 rfl) fun a F => s_grd 26 F rfl rfl rfl <| F.ld m3 flat3 rfl rfl fun a F => s_grd 26 F rfl rfl rfl <| F.vl (x_fa0 fa24_1 rfl) fun a F => s_grd 26 F rfl rfl rfl <| F.ld m4 flat3 rfl rfl fun a F => s_grd 26 F rfl rfl rfl <| F.vl (neqF (by omega) rfl rfl) fun a F => s_grd 22 F rfl rfl rfl <| F.vl (x_pick (b := true) rfl rfl) fun a F => F.vl (x_pick (b := false) rfl rfl) fun a F => F.mv rfl fun a F => s_grd 34 F rfl rfl rfl <| F.vl (x_fa0 fa24_2 rfl) fun a F => ?_
      refine s_grd 34 F rfl rfl rfl <| F.ld m3 flat22 rfl rfl fun a F => s_grd 34 F rfl rfl rfl <| F.vl (x_len Try.underlying22 rfl) fun a F => s_grd 34 F rfl rfl rfl <| F.vl (x_fa0 fa24_2 rfl) fun a F => s_grd 34 F rfl rfl rfl <| F.ld m4 flat22 rfl rfl fun a F => s_grd 34 F rfl rfl rfl <| F.vl (x_len Try.underlying22 rfl) fun a F => s_grd 34 F rfl rfl rfl <| F.vl (neqF (by omega) rfl rfl) fun a F => F.vl (x_pick (b := false) rfl rfl) fun a F => ?_
      refine s_end (K14 _ _ ?_)
      refine wp_if F rfl ?_
      refine wp_skip (K6 _ _ ?_)
      refine wp_seq_k fun _ K15 => ?_
      refine wp_rs fun _ K16 => F.vl (x_fa0 fa24_2 rfl) fun a F => F.ld m3 flat22 rfl rfl fun a F => F.vl (x_len Try.underlying22 rfl) fun a F => F.mv rfl fun a F => ?_
      refine s_end (K16 _ _ ?_)
      refine wp_block ?_
      refine wp_up xs.length (fun i a w => (∃ ri, Blk w g 3 [.int .i64 ri]) ∧ Blk w b3 24 [.int .i64 k, .int .i64 n, .slice av xs.length cv] ∧ Blk w b4 24 [.int .i64 k2, .int .i64 n2, .slice au ys.length cu] ∧ Below w0.heap.size w0 w ∧ Ktw g g w1 w ∧ Fs 63 a [(46, .int .i64 (i : Int)), (45, .int .i64 (xs.length : Int)), (2, .pointer (some ⟨g, 0, none⟩)), (3, .pointer (some ⟨b3, 0, none⟩)), (4, .pointer (some ⟨b4, 0, none⟩))]) ⟨⟨_, mg⟩, m3, m4, hB, hK, F.sub _ rfl⟩ ?_
      have hbb : w1.heap.size ≤ b3 ∧ b3 < b4 ∧ g < b3 := ⟨by omega, by omega, by omega⟩
      repeat clear F
      clear hB hK mg m3 m4
      rintro i a w hi ⟨⟨ri, mg⟩, m3, m4, hB, hK, F⟩ K' hK'
      have sB := hB.size
      have sK := hK.size
      have hgl := mg.lt
      have hm4 := m4.lt
      refine wp_rs fun _ K17 => F.vl (x_lss (b := decide (i < xs.length)) (decide_eq_decide.2 (by omega)) rfl rfl) fun a F => ?_
      refine s_end (K17 _ _ ?_)
      refine wp_seq_k fun _ K18 => ?_
      refine wp_iff F rfl (fun hc47 => ?_) (fun hc47 => ?_)
      · obtain ⟨b, off, c, y1, hve, hy1, hrow1⟩ := rd_row3 hR (i := i) (by omega)
        cases hve
        obtain ⟨b2, off2, c2, y2, hve, hy2, hrow2⟩ := rd_row3 hR2 (i := i) (by omega)
        cases hve
        obtain ⟨p, hp⟩ : ∃ p, ls[i]? = some p := ⟨_, List.getElem?_eq_getElem (by omega)⟩
        obtain ⟨q, hq⟩ : ∃ q, ls2[i]? = some q := ⟨_, List.getElem?_eq_getElem (by omega)⟩
        have hps := Lv.memo_size (k := k) (n := n) hp
        refine wp_skip (K18 _ _ ?_)
        refine wp_seq_k fun _ K19 => ?_
        refine wp_block ?_
        refine wp_rs fun _ K20 => F.mv rfl fun a F => F.sg rfl fun a F => ?_
        refine s_end (K20 _ _ ?_)
        refine dk2_seq (g) (g) (ops := regOps Try.f86 9) (N := 13) (by kernel_rfl) wide_orders (by kernel_rfl) fun w8 hw8 B9 hS K21 hK21 => ?_
        have zw8 : w8.heap.size = w.heap.size := by rw [hw8]
        have sB9 := B9.size
        have hB := bt hB B9
        have hK := hK.below B9
        have mg := mg.old B9
        have m3 := m3.old B9
        have m4 := m4.old B9
        have mg_d := mg
        have m3_d := m3
        have m4_d := m4
        have hB_d := hB
        have hK_d := hK
        refine F.dv 0 49 (.fieldAddr 24 (.tmp 3) 2) hS (fun W hW => x_fa0 fa24_2 rfl) fun a F => F.dv 1 50 (.load 22 (.tmp 49)) hS (fun W hW => x_load rfl (m_load flat22 ((m3_d.k2 hW (by omega)).cell (j := 2) rfl))) fun a F => F.dv 2 51 (.move (.tmp 7)) hS (fun W hW => x_move rfl) fun a F => F.dv 3 52 (.indexAddr 22 (.tmp 50) (.tmp 51)) hS (fun W hW => x_ixa rfl rfl (m_ixsK i Try.underlying22 el22.size rfl (by omega))) fun a F => F.dv 4 53 (.load 24 (.tmp 52)) hS (fun W hW => x_ldA wide24 (hrow1 _ (hW.under hB_d (by omega))) rfl rfl) fun a F => F.dv 5 54 (.fieldAddr 24 (.tmp 4) 2) hS (fun W hW => x_fa0 fa24_2 rfl) fun a F => F.dv 6 55 (.load 22 (.tmp 54)) hS (fun W hW => x_load rfl (m_load flat22 ((m4_d.k2 hW (by omega)).cell (j := 2) rfl))) fun a F => F.dv 7 56 (.move (.tmp 7)) hS (fun W hW => x_move rfl) fun a F => F.dv 8 57 (.indexAddr 22 (.tmp 55) (.tmp 56)) hS (fun W hW => x_ixa rfl rfl (m_ixsK i Try.underlying22 el22.size rfl (by omega))) fun a F => F.dv 9 58 (.load 24 (.tmp 57)) hS (fun W hW => x_ldA wide24 (hrow2 _ (hW.under hB_d (by omega))) rfl rfl) fun a F => F.dv 10 59 (.move (.tmp 2)) hS (fun W hW => x_move rfl) fun a F => ?_
        refine d1 11 (some 60) (.call (.mk (.value (.func 86)) #[(.tmp 53), (.tmp 58), (.tmp 59)] #[24, 24, 62])) fun ty pos af => ?_
        refine s_call (R := fun u w' => ((∃ b, u = .bool b) ∧ ∃ r', Blk w' g 3 [.int .i64 r']) ∧ Ktw g g w8 w') F [_, _, _] E86 rfl (by decide) (ih p q y1 y2 (by omega) (hk i y1 p hy1 hp) (hk2 i y2 q hy2 hq) ri w8 hB mg) ?_
        rintro _ w10 a ⟨⟨⟨b9, rfl⟩, r9, mg⟩, k11⟩ F
        have sk11 := k11.size
        have hB := k11.under hB (by omega)
        have hK := hK.trans k11 (by omega)
        have m3 := m3.k2 k11 (by omega)
        have m4 := m4.k2 k11 (by omega)
        have hS := hS.trans k11 (by omega)
        refine s_end ⟨hS, ?_⟩
        refine F.dv 12 61 (.unOp .not 4 (.tmp 60)) hS (fun W hW => x_not rfl) fun a F => ?_
        refine d_end (by kernel_rfl) (hK21 _ _ ?_)
        refine wp_ifb F rfl (fun hc61 => ?_) (fun hc61 => ?_)
        · refine wp_rs fun _ K22 => ?_
          refine F.sg rfl fun a F => ?_
          refine s_end (K22 _ _ ?_)
          refine wp_ret (inb_ret (then_ret (then_ret (inb_ret (then_ret (res_slot F rfl rfl ⟨_, rfl, ⟨⟨_, rfl⟩, _, mg⟩, hK⟩))))))
        · refine wp_skip (K19 _ _ ?_)
          refine wp_region_lit ?_
          refine F.vl (x_addn (i + 1) (by omega) (by omega) rfl rfl) fun a F => F.mv rfl fun a F => ?_
          refine s_end (hK' _ _ (by omega) ⟨⟨_, mg⟩, m3, m4, hB, hK, F.sub _ rfl⟩)
      · refine wp_exit (K15 _ _ ?_)
        refine wp_rs fun _ K23 => F.sg rfl fun a F => ?_
        refine s_end (K23 _ _ ?_)
        refine wp_ret (res_slot F rfl rfl ⟨_, rfl, ⟨⟨_, rfl⟩, _, mg⟩, hK⟩)
    · skip
      refine wp_rs fun _ K24 => F.vl (x_fa0 fa24_0 rfl) fun a F => F.ld m3 flat3 rfl rfl fun a F => F.vl (x_fa0 fa24_0 rfl) fun a F => F.ld m4 flat3 rfl rfl fun a F => F.vl (neqF (by omega) rfl rfl) fun a F => F.mv rfl fun a F => s_grd 22 F rfl rfl rfl <| F.vl (x_fa0 fa24_0 rfl) fun a F => s_grd 22 F rfl rfl rfl <| F.ld m3 flat3 rfl rfl fun a F => s_grd 22 F rfl rfl rfl <| F.vl (neqF (by omega) rfl rfl) fun a F => s_grd 22 F rfl rfl rfl <| F.mv rfl fun a F => s_grdn 26 F rfl rfl (by decide) fun a F => s_grdn 26 F rfl rfl (by decide) fun a F => s_grdn 26 F rfl rfl (by decide) fun a F => s_grdn 26 F rfl rfl (by decide) fun a F => s_grdn 26 F rfl rfl (by decide) fun a F => s_grd 22 F rfl rfl rfl <| F.vl (x_pick (b := false) rfl rfl) fun a F => F.vl (x_pick (b := false) rfl rfl) fun a F => F.mv rfl fun a F => s_grd 34 F rfl rfl rfl <| F.vl (x_fa0 fa24_2 rfl) fun a F => s_grd 34 F rfl rfl rfl <| F.ld m3 flat22 rfl rfl fun a F => s_grd 34 F rfl rfl rfl <| F.vl (x_len Try.underlying22 rfl) fun a F => s_grd 34 F rfl rfl rfl ?_
      refine F.vl (x_fa0 fa24_2 rfl) fun a F => s_grd 34 F rfl rfl rfl <| F.ld m4 flat22 rfl rfl fun a F => s_grd 34 F rfl rfl rfl <| F.vl (x_len Try.underlying22 rfl) fun a F => s_grd 34 F rfl rfl rfl <| F.vl (neqT (by omega) rfl rfl) fun a F => F.vl (x_pick (b := false) rfl rfl) fun a F => ?_
      refine s_end (K24 _ _ ?_)
      refine wp_if F rfl ?_
      refine wp_rs fun _ K25 => F.sg rfl fun a F => ?_
      refine s_end (K25 _ _ ?_)
      refine wp_ret (then_ret (res_slot F rfl rfl ⟨_, rfl, ⟨⟨_, rfl⟩, _, mg⟩, hK⟩))
    · skip
      refine wp_rs fun _ K26 => F.vl (x_fa0 fa24_0 rfl) fun a F => F.ld m3 flat3 rfl rfl fun a F => F.vl (x_fa0 fa24_0 rfl) fun a F => F.ld m4 flat3 rfl rfl fun a F => F.vl (neqF (by omega) rfl rfl) fun a F => F.mv rfl fun a F => s_grd 22 F rfl rfl rfl <| F.vl (x_fa0 fa24_0 rfl) fun a F => s_grd 22 F rfl rfl rfl <| F.ld m3 flat3 rfl rfl fun a F => s_grd 22 F rfl rfl rfl <| F.vl (neqF (by omega) rfl rfl) fun a F => s_grd 22 F rfl rfl rfl <| F.mv rfl fun a F => s_grdn 26 F rfl rfl (by decide) fun a F => s_grdn 26 F rfl rfl (by decide) fun a F => s_grdn 26 F rfl rfl (by decide) fun a F => s_grdn 26 F rfl rfl (by decide) fun a F => s_grdn 26 F rfl rfl (by decide) fun a F => s_grd 22 F rfl rfl rfl <| F.vl (x_pick (b := false) rfl rfl) fun a F => F.vl (x_pick (b := false) rfl rfl) fun a F => F.mv rfl fun a F => s_grd 34 F rfl rfl rfl <| F.vl (x_fa0 fa24_2 rfl) fun a F => s_grd 34 F rfl rfl rfl <| F.ld m3 flat22 rfl rfl fun a F => s_grd 34 F rfl rfl rfl <| F.vl (x_len Try.underlying22 rfl) fun a F => s_grd 34 F rfl rfl rfl ?_
      refine F.vl (x_fa0 fa24_2 rfl) fun a F => s_grd 34 F rfl rfl rfl <| F.ld m4 flat22 rfl rfl fun a F => s_grd 34 F rfl rfl rfl <| F.vl (x_len Try.underlying22 rfl) fun a F => s_grd 34 F rfl rfl rfl <| F.vl (neqF (by omega) rfl rfl) fun a F => F.vl (x_pick (b := false) rfl rfl) fun a F => ?_
      refine s_end (K26 _ _ ?_)
      refine wp_if F rfl ?_
      refine wp_skip (K6 _ _ ?_)
      refine wp_seq_k fun _ K27 => ?_
      refine wp_rs fun _ K28 => F.vl (x_fa0 fa24_2 rfl) fun a F => F.ld m3 flat22 rfl rfl fun a F => F.vl (x_len Try.underlying22 rfl) fun a F => F.mv rfl fun a F => ?_
      refine s_end (K28 _ _ ?_)
      refine wp_block ?_
      refine wp_up xs.length (fun i a w => (∃ ri, Blk w g 3 [.int .i64 ri]) ∧ Blk w b3 24 [.int .i64 k, .int .i64 n, .slice av xs.length cv] ∧ Blk w b4 24 [.int .i64 k2, .int .i64 n2, .slice au ys.length cu] ∧ Below w0.heap.size w0 w ∧ Ktw g g w1 w ∧ Fs 63 a [(46, .int .i64 (i : Int)), (45, .int .i64 (xs.length : Int)), (2, .pointer (some ⟨g, 0, none⟩)), (3, .pointer (some ⟨b3, 0, none⟩)), (4, .pointer (some ⟨b4, 0, none⟩))]) ⟨⟨_, mg⟩, m3, m4, hB, hK, F.sub _ rfl⟩ ?_
      have hbb : w1.heap.size ≤ b3 ∧ b3 < b4 ∧ g < b3 := ⟨by omega, by omega, by omega⟩
      repeat clear F
      clear hB hK mg m3 m4
      rintro i a w hi ⟨⟨ri, mg⟩, m3, m4, hB, hK, F⟩ K' hK'
      have sB := hB.size
      have sK := hK.size
      have hgl := mg.lt
      have hm4 := m4.lt
      refine wp_rs fun _ K29 => F.vl (x_lss (b := decide (i < xs.length)) (decide_eq_decide.2 (by omega)) rfl rfl) fun a F => ?_
      refine s_end (K29 _ _ ?_)
      refine wp_seq_k fun _ K30 => ?_
      refine wp_iff F rfl (fun hc47 => ?_) (fun hc47 => ?_)
      · obtain ⟨b, off, c, y1, hve, hy1, hrow1⟩ := rd_row3 hR (i := i) (by omega)
        cases hve
        obtain ⟨b2, off2, c2, y2, hve, hy2, hrow2⟩ := rd_row3 hR2 (i := i) (by omega)
        cases hve
        obtain ⟨p, hp⟩ : ∃ p, ls[i]? = some p := ⟨_, List.getElem?_eq_getElem (by omega)⟩
        obtain ⟨q, hq⟩ : ∃ q, ls2[i]? = some q := ⟨_, List.getElem?_eq_getElem (by omega)⟩
        have hps := Lv.memo_size (k := k) (n := n) hp
        refine wp_skip (K30 _ _ ?_)
        refine wp_seq_k fun _ K31 => ?_
        refine wp_block ?_
        refine wp_rs fun _ K32 => F.mv rfl fun a F => F.sg rfl fun a F => ?_
        refine s_end (K32 _ _ ?_)
        refine dk2_seq (g) (g) (ops := regOps Try.f86 9) (N := 13) (by kernel_rfl) wide_orders (by kernel_rfl) fun w12 hw12 B13 hS K33 hK33 => ?_
        have zw12 : w12.heap.size = w.heap.size := by rw [hw12]
        have sB13 := B13.size
        have hB := bt hB B13
        have hK := hK.below B13
        have mg := mg.old B13
        have m3 := m3.old B13
        have m4 := m4.old B13
        have mg_d := mg
        have m3_d := m3
        have m4_d := m4
        have hB_d := hB
        have hK_d := hK
        refine F.dv 0 49 (.fieldAddr 24 (.tmp 3) 2) hS (fun W hW => x_fa0 fa24_2 rfl) fun a F => F.dv 1 50 (.load 22 (.tmp 49)) hS (fun W hW => x_load rfl (m_load flat22 ((m3_d.k2 hW (by omega)).cell (j := 2) rfl))) fun a F => F.dv 2 51 (.move (.tmp 7)) hS (fun W hW => x_move rfl) fun a F => F.dv 3 52 (.indexAddr 22 (.tmp 50) (.tmp 51)) hS (fun W hW => x_ixa rfl rfl (m_ixsK i Try.underlying22 el22.size rfl (by omega))) fun a F => F.dv 4 53 (.load 24 (.tmp 52)) hS (fun W hW => x_ldA wide24 (hrow1 _ (hW.under hB_d (by omega))) rfl rfl) fun a F => F.dv 5 54 (.fieldAddr 24 (.tmp 4) 2) hS (fun W hW => x_fa0 fa24_2 rfl) fun a F => F.dv 6 55 (.load 22 (.tmp 54)) hS (fun W hW => x_load rfl (m_load flat22 ((m4_d.k2 hW (by omega)).cell (j := 2) rfl))) fun a F => F.dv 7 56 (.move (.tmp 7)) hS (fun W hW => x_move rfl) fun a F => F.dv 8 57 (.indexAddr 22 (.tmp 55) (.tmp 56)) hS (fun W hW => x_ixa rfl rfl (m_ixsK i Try.underlying22 el22.size rfl (by omega))) fun a F => F.dv 9 58 (.load 24 (.tmp 57)) hS (fun W hW => x_ldA wide24 (hrow2 _ (hW.under hB_d (by omega))) rfl rfl) fun a F => F.dv 10 59 (.move (.tmp 2)) hS (fun W hW => x_move rfl) fun a F => ?_
        refine d1 11 (some 60) (.call (.mk (.value (.func 86)) #[(.tmp 53), (.tmp 58), (.tmp 59)] #[24, 24, 62])) fun ty pos af => ?_
        refine s_call (R := fun u w' => ((∃ b, u = .bool b) ∧ ∃ r', Blk w' g 3 [.int .i64 r']) ∧ Ktw g g w12 w') F [_, _, _] E86 rfl (by decide) (ih p q y1 y2 (by omega) (hk i y1 p hy1 hp) (hk2 i y2 q hy2 hq) ri w12 hB mg) ?_
        rintro _ w14 a ⟨⟨⟨b9, rfl⟩, r9, mg⟩, k15⟩ F
        have sk15 := k15.size
        have hB := k15.under hB (by omega)
        have hK := hK.trans k15 (by omega)
        have m3 := m3.k2 k15 (by omega)
        have m4 := m4.k2 k15 (by omega)
        have hS := hS.trans k15 (by omega)
        refine s_end ⟨hS, ?_⟩
        refine F.dv 12 61 (.unOp .not 4 (.tmp 60)) hS (fun W hW => x_not rfl) fun a F => ?_
        refine d_end (by kernel_rfl) (hK33 _ _ ?_)
        refine wp_ifb F rfl (fun hc61 => ?_) (fun hc61 => ?_)
        · refine wp_rs fun _ K34 => ?_
          refine F.sg rfl fun a F => ?_
          refine s_end (K34 _ _ ?_)
          refine wp_ret (inb_ret (then_ret (then_ret (inb_ret (then_ret (res_slot F rfl rfl ⟨_, rfl, ⟨⟨_, rfl⟩, _, mg⟩, hK⟩))))))
        · refine wp_skip (K31 _ _ ?_)
          refine wp_region_lit ?_
          refine F.vl (x_addn (i + 1) (by omega) (by omega) rfl rfl) fun a F => F.mv rfl fun a F => ?_
          refine s_end (hK' _ _ (by omega) ⟨⟨_, mg⟩, m3, m4, hB, hK, F.sub _ rfl⟩)
      · refine wp_exit (K27 _ _ ?_)
        refine wp_rs fun _ K35 => F.sg rfl fun a F => ?_
        refine s_end (K35 _ _ ?_)
        refine wp_ret (res_slot F rfl rfl ⟨_, rfl, ⟨⟨_, rfl⟩, _, mg⟩, hK⟩)
theorem Sameg58 (la lb : Lv) (x y : C3) (w0 : World) (hs : RL w0 x la) (ht : RL w0 y lb) : Calls Try.prog 42 #[lv x, lv y] w0 fun e w' => ∃ v, e = .returned v ∧ (∃ b, v = .bool b) ∧ Below w0.heap.size w0 w' := by
 have hB := Below.refl w0.heap.size w0
 have sB := hB.size
 refine calls_fs 9 [(0, lv x), (1, lv y)] Try.func42 rfl rfl rfl rfl rfl fun a F => ?_
 refine wp_rs fun _ K1 => ?_
 refine s_box (lc x) F (by decide) rfl rfl fun w2 b2 a eb2 m2 B3 zb2 F => ?_
 have sB3 := B3.size
 have hB := bt hB B3
 refine s_box (lc y) F (by decide) rfl rfl fun w4 b3 a eb3 m3 B5 zb3 F => ?_
 have sB5 := B5.size
 have hB := bt hB B5
 have m2 := m2.old B5
 refine F.sg rfl fun a F => ?_
 refine s_end (K1 _ _ ?_)
 refine wp_rs fun _ K2 => ?_
 refine s_alloc1 F (by decide) zero3 rfl fun w6 b5 a eb5 m5 B7 zb5 F => ?_
 have sB7 := B7.size
 have hB := bt hB B7
 have m2 := m2.old B7
 have m3 := m3.old B7
 refine s_put F rfl rfl flat3 m5 (by first | (simp; done) | (simp [tc, lc]; done) | decide) rfl fun w8 m5 o9 => ?_
 have so9 := o9.size
 have hB := hB.trans (o9.below (by omega))
 have m2 := m2.only o9 (by omega)
 have m3 := m3.only o9 (by omega)
 refine s_end (K2 _ _ ?_)
 refine wp_rs fun _ K3 => F.vl (x_ldW wide24 m2 rfl rfl) fun a F => F.vl (x_ldW wide24 m3 rfl rfl) fun a F => ?_
 refine s_call (R := fun u w' => ((∃ b, u = .bool b) ∧ ∃ r', Blk w' b5 3 [.int .i64 r']) ∧ Ktw b5 b5 w8 w') F [_, _, _] E86 rfl (by decide) (sameg103 w0 b5 (by omega) (la.szo + 1) la lb x y (by omega) hs ht 0 w8 hB m5) ?_
 rintro _ w10 a ⟨⟨⟨b9, rfl⟩, _⟩, k11⟩ F
 have sk11 := k11.size
 have hB := k11.under hB (by omega)
 refine F.sg rfl fun a F => ?_
 refine s_end (K3 _ _ ?_)
 refine wp_ret (res_slot F rfl rfl ⟨_, rfl, ⟨_, rfl⟩, hB⟩)
theorem sameLevel19 (la lb : Lv) (x y : C3) (w0 : World) (hx : RL w0 x la) (hy : RL w0 y lb) (he : slO la = slO lb) : Calls Try.prog 13 #[lv x, lv y] w0 fun e w' => e = .returned (.bool true) ∧ Below w0.heap.size w0 w' := by
 by_cases hs : sndL lb
 ·
  obtain ⟨t, ht, hg⟩ := sound_sl hy hs
  have h2 := slO_of hy ht hg
  obtain ⟨_, hsx, _⟩ := slO_some hx (he.trans h2)
  have hsz : t.size ≤ 5000 := by have := hg.1; omega
  have hB := Below.refl w0.heap.size w0
  have sB := hB.size
  refine calls_fs 13 [(0, lv x), (1, lv y)] Try.func13 rfl rfl rfl rfl rfl fun a F => ?_
  refine wp_rs fun _ K1 => ?_
  refine s_box (lc x) F (by decide) rfl rfl fun w2 b2 a eb2 m2 B3 zb2 F => ?_
  have sB3 := B3.size
  have hB := bt hB B3
  refine s_box (lc y) F (by decide) rfl rfl fun w4 b3 a eb3 m3 B5 zb3 F => ?_
  have sB5 := B5.size
  have hB := bt hB B5
  have m2 := m2.old B5
  refine F.sg rfl fun a F => ?_
  refine s_end (K1 _ _ ?_)
  refine wp_rs fun _ K2 => F.vl (x_ldW wide24 m2 rfl rfl) fun a F => F.vl (x_ldW wide24 m3 rfl rfl) fun a F => ?_
  refine s_callB [_, _] F E42 rfl (by decide) ((Same18 t t x y w4 (RS.below hB hsx) (RS.below hB ht) hsz).mono fun e w' h => ⟨by rw [h.1, decide_eq_true rfl], h.2⟩) fun w6 a B7 F => ?_
  have sB7 := B7.size
  have hB := bt hB B7
  refine F.mv rfl fun a F => s_grdn 8 F rfl rfl (by decide) fun a F => s_grdn 8 F rfl rfl (by decide) fun a F => s_grdn 8 F rfl rfl (by decide) fun a F => F.vl (x_pick (b := true) rfl rfl) fun a F => F.sg rfl fun a F => ?_
  refine s_end (K2 _ _ ?_)
  refine wp_ret (res_slot F rfl rfl ⟨rfl, hB⟩)
 ·
  skip
  have hB := Below.refl w0.heap.size w0
  have sB := hB.size
  refine calls_fs 13 [(0, lv x), (1, lv y)] Try.func13 rfl rfl rfl rfl rfl fun a F => ?_
  refine wp_rs fun _ K1 => ?_
  refine s_box (lc x) F (by decide) rfl rfl fun w2 b2 a eb2 m2 B3 zb2 F => ?_
  have sB3 := B3.size
  have hB := bt hB B3
  refine s_box (lc y) F (by decide) rfl rfl fun w4 b3 a eb3 m3 B5 zb3 F => ?_
  have sB5 := B5.size
  have hB := bt hB B5
  have m2 := m2.old B5
  refine F.sg rfl fun a F => ?_
  refine s_end (K1 _ _ ?_)
  refine wp_rs fun _ K2 => F.vl (x_ldW wide24 m2 rfl rfl) fun a F => F.vl (x_ldW wide24 m3 rfl rfl) fun a F => ?_
  refine s_callR (R := fun v w' => ∃ b, v = .bool b) [_, _] F E42 rfl (by decide) (Sameg58 la lb x y w4 (RL.old hx hB) (RL.old hy hB)) ?_
  rintro _ w6 a ⟨bs, rfl⟩ B7 F
  have sB7 := B7.size
  have hB := bt hB B7
  have m3 := m3.old B7
  cases bs
  ·
   refine F.mv rfl fun a F => s_grd 8 F rfl rfl rfl <| F.vl (x_ldW wide24 m3 rfl rfl) fun a F => s_grd 8 F rfl rfl rfl ?_
   refine s_callB [_] F E43 rfl (by decide) ((rSound17 y lb w6 (RL.old hy hB)).mono fun e w' h => ⟨by rw [h.1, decide_eq_false hs], h.2⟩) fun w8 a B9 F => ?_
   have sB9 := B9.size
   have hB := bt hB B9
   refine s_grd 8 F rfl rfl rfl <| F.vl (x_not rfl) fun a F => F.vl (x_pick (b := false) rfl rfl) fun a F => F.sg rfl fun a F => ?_
   refine s_end (K2 _ _ ?_)
   refine wp_ret (res_slot F rfl rfl ⟨rfl, hB⟩)
  ·
   refine F.mv rfl fun a F => s_grdn 8 F rfl rfl (by decide) fun a F => s_grdn 8 F rfl rfl (by decide) fun a F => s_grdn 8 F rfl rfl (by decide) fun a F => F.vl (x_pick (b := true) rfl rfl) fun a F => F.sg rfl fun a F => ?_
   refine s_end (K2 _ _ ?_)
   refine wp_ret (res_slot F rfl rfl ⟨rfl, hB⟩)
end Go.Proofs.Ytmkjhdiepkpdoaa

namespace Go.Proofs.Ytmkjhdiepkpdoaa
set_option maxRecDepth 100000
set_option maxHeartbeats 1600000
open Go.RowKit Go.Shelf
set_option linter.unusedVariables false
set_option linter.unusedSimpArgs false
theorem x_neS9 {P : Program} {n : Nat} {l : List (Nat × Value)} {w : World} {t t' : TypeId} {x y : Operand} {p q : ByteArray} {b : Bool} (h : decide (p ≠ q) = b) (hx : ov l x = some (.string p)) (hy : ov l y = some (.string q)) : Runs P n l w (.binOp .neq t x y t') (.bool b) :=
 x_bin hx hy fun W => ⟨by simp [eqGuard], by
  subst h
  simp [binOp, Op.stringOp]
  rw [Bool.eq_iff_iff]
  simp only [bne_iff_ne, ne_eq, Bool.not_eq_true', decide_eq_false_iff_not, beq_iff_eq, decide_eq_true_eq, Bool.not_eq_eq_eq_not, Bool.not_true, beq_eq_false_iff_ne]
  refine ⟨fun h => ?_, ?_⟩
  ·
   rw [ByteArray.toList_eq, ByteArray.toList_eq] at h
   exact ByteArray.ext (Array.ext' h)
  ·
   rintro rfl
   rfl⟩
theorem near_casesL {c d : CT} (h : c.ess = d.ess) (hp : c.ess.fit) : (∃ k m m2, c = .odd k m ∧ d = .odd k m2) ∨ (∃ n m m2, c = .var n m ∧ d = .var n m2) ∨ (∃ l m l2 m2, c = .sort l m ∧ d = .sort l2 m2 ∧ slO l = slO l2) ∨ (∃ s ls m ls2 m2, c = .cst s ls m ∧ d = .cst s ls2 m2 ∧ ls.map slO = ls2.map slO ∧ ls.length ≤ 9223372036854775807) ∨ (∃ k p q m p2 q2 m2, c = .two k p q m ∧ d = .two k p2 q2 m2 ∧ p.ess = p2.ess ∧ q.ess = q2.ess ∧ p.ess.fit ∧ q.ess.fit) ∨ (∃ p q r m p2 q2 r2 m2, c = .lt p q r m ∧ d = .lt p2 q2 r2 m2 ∧ p.ess = p2.ess ∧ q.ess = q2.ess ∧ r.ess = r2.ess ∧ p.ess.fit ∧ q.ess.fit ∧ r.ess.fit) := by
 cases c with
 | odd k m => cases d <;> simp [CT.ess] at h; subst h; exact .inl ⟨_, _, _, rfl, rfl⟩
 | var n m => cases d <;> simp [CT.ess] at h; subst h; exact .inr (.inl ⟨_, _, _, rfl, rfl⟩)
 | sort l m => cases d <;> simp [CT.ess] at h; exact .inr (.inr (.inl ⟨_, _, _, _, rfl, rfl, h⟩))
 | cst s ls m =>
  cases d <;> simp only [CT.ess, PT.cst.injEq, reduceCtorEq] at h
  obtain ⟨rfl, h2⟩ := h
  exact .inr (.inr (.inr (.inl ⟨_, _, _, _, _, rfl, rfl, h2, by simpa [CT.ess, PT.fit] using hp⟩)))
 | two k p q m =>
  cases d <;> simp [CT.ess] at h
  obtain ⟨rfl, h1, h2⟩ := h
  exact .inr (.inr (.inr (.inr (.inl ⟨_, _, _, _, _, _, _, rfl, rfl, h1, h2, hp.1, hp.2⟩))))
 | lt p q r m =>
  cases d <;> simp [CT.ess] at h
  obtain ⟨h1, h2, h3⟩ := h
  exact .inr (.inr (.inr (.inr (.inr ⟨_, _, _, _, _, _, _, _, rfl, rfl, h1, h2, h3, hp.1, hp.2.1, hp.2.2⟩))))
/-- What near goes by. -/
structure NrL (c d : CT) (k : Int) : Prop where
 kc : c.kd = k
 kd : d.kd = k
 ar : arT k = c.kids.length
 ln : c.kids.length = d.kids.length
 lc : ¬ (arT c.kd < 0 ∨ (c.len : Int) < arT c.kd)
 ld : ¬ (arT d.kd < 0 ∨ (d.len : Int) < arT d.kd)
 kids : ∀ (i : Nat) p q, c.kids[i]? = some p → d.kids[i]? = some q → p.ess = q.ess ∧ p.ess.fit
theorem near_twoL {W : World} {A : Nat → Prop} {x : C8} {c d : CT} (hx : RC W A c x) (h : (∃ k p q m p2 q2 m2, c = .two k p q m ∧ d = .two k p2 q2 m2 ∧ p.ess = p2.ess ∧ q.ess = q2.ess ∧ p.ess.fit ∧ q.ess.fit) ∨ (∃ p q r m p2 q2 r2 m2, c = .lt p q r m ∧ d = .lt p2 q2 r2 m2 ∧ p.ess = p2.ess ∧ q.ess = q2.ess ∧ r.ess = r2.ess ∧ p.ess.fit ∧ q.ess.fit ∧ r.ess.fit)) : (c.kd ≠ 1 ∧ c.kd ≠ 2 ∧ c.kd ≠ 7) ∧ NrL c d c.kd := by
 rcases h with ⟨k, p, q, m, p2, q2, m2, rfl, rfl, h1, h2, h3, h4⟩ | ⟨p, q, r, m, p2, q2, r2, m2, rfl, rfl, h1, h2, h3, h4, h5, h6⟩
 ·
  have hk := hx.2.1
  have ha : arT k = 2 := by rcases hk with rfl | rfl | rfl <;> rfl
  refine ⟨by simp only [CT.kd]; omega, rfl, rfl, by simp only [CT.kd, CT.kids, ha]; rfl, rfl, by simp only [CT.kd, CT.len, ha]; omega, by simp only [CT.kd, CT.len, ha]; omega, fun i a b e1 e2 => ?_⟩
  rcases i with _ | _ | i
  ·
   simp [CT.kids] at e1 e2; subst e1 e2; exact ⟨h1, h3⟩
  ·
   simp [CT.kids] at e1 e2; subst e1 e2; exact ⟨h2, h4⟩
  ·
   simp [CT.kids] at e1
 ·
  have ha : arT 5 = 3 := rfl
  refine ⟨by simp [CT.kd], rfl, rfl, by simp only [CT.kd, CT.kids, ha]; rfl, rfl, by simp only [CT.kd, CT.len, ha]; omega, by simp only [CT.kd, CT.len, ha]; omega, fun i a b e1 e2 => ?_⟩
  rcases i with _ | _ | _ | i
  ·
   simp [CT.kids] at e1 e2; subst e1 e2; exact ⟨h1, h4⟩
  ·
   simp [CT.kids] at e1 e2; subst e1 e2; exact ⟨h2, h5⟩
  ·
   simp [CT.kids] at e1 e2; subst e1 e2; exact ⟨h3, h6⟩
  ·
   simp [CT.kids] at e1
theorem near61L : ∀ (N : Nat) (c d : CT) (x y : C8) (w0 : World), c.size < N → RC w0 (fun k => k < w0.heap.size) c x → RC w0 (fun k => k < w0.heap.size) d y → c.ess = d.ess → c.ess.fit → Calls Try.prog 45 #[tv x, tv y] w0 fun e w' => e = .returned (.bool true) ∧ Below w0.heap.size w0 w' := by
 intro N
 induction N with
 | zero => intro c d x y w0 h; omega
 | succ N ih =>
 intro c d x y w0 hN hx hy he hp
 have hcs := near_casesL he hp
 obtain ⟨av, nv, cv, hts, hle9, hlen9, hcap, hkid⟩ := hx.kids
 obtain ⟨au, nu, cu, htu, hleu, hlenu, hcapu, hkiu⟩ := hy.kids
 obtain ⟨xk, xn, xs, xl, xls, xts⟩ := x
 obtain ⟨yk, yn, ys, yl, yls, yts⟩ := y
 simp only at hts htu
 subst hts htu
 have hkd : xk = c.kd := hx.kd
 have hkd2 : yk = d.kd := hy.kd
 have hB := Below.refl w0.heap.size w0
 have sB := hB.size
 refine calls_fs 91 [(0, tv ⟨xk, xn, xs, xl, xls, .slice av nv cv⟩), (1, tv ⟨yk, yn, ys, yl, yls, .slice au nu cu⟩)] Try.func45 rfl rfl rfl rfl rfl fun a F => ?_
 refine wp_rs fun _ K1 => ?_
 refine s_box ([.int .i64 xk, .int .i64 xn, .string xs, .int .i64 xl.1, .int .i64 xl.2.1, xl.2.2, xls, .slice av nv cv]) F (by decide) rfl rfl fun w2 b2 a eb2 m2 B3 zb2 F => ?_
 have sB3 := B3.size
 have hB := bt hB B3
 refine s_box ([.int .i64 yk, .int .i64 yn, .string ys, .int .i64 yl.1, .int .i64 yl.2.1, yl.2.2, yls, .slice au nu cu]) F (by decide) rfl rfl fun w4 b3 a eb3 m3 B5 zb3 F => ?_
 have sB5 := B5.size
 have hB := bt hB B5
 have m2 := m2.old B5
 refine F.sg rfl fun a F => ?_
 refine s_end (K1 _ _ ?_)
 refine wp_seq_k fun _ K2 => ?_
 rcases hcs with ⟨k, m, mb, rfl, rfl⟩ | ⟨n, m, mb, rfl, rfl⟩ | ⟨l, m, l2, mb, rfl, rfl, hll⟩ | ⟨sn, ls, m, ls2, mb, rfl, rfl, hmp, hlb⟩ | hcs
 ·
  have hlc : arT (CT.odd k m).kd < 0 ∨ ((CT.odd k m).len : Int) < arT (CT.odd k m).kd := hx.2.1
  have hld : arT (CT.odd k mb).kd < 0 ∨ ((CT.odd k mb).len : Int) < arT (CT.odd k mb).kd := hy.2.1
  have hk1 : xk = k := hx.1
  have hk2 : yk = k := hy.1
  refine dk2_seq (w4.heap.size) (w4.heap.size) (ops := regOps Try.f45 1) (N := 12) (by kernel_rfl) wide_orders (by kernel_rfl) fun w6 hw6 B7 hS K4 K4 => ?_
  have zw6 : w6.heap.size = w4.heap.size := by rw [hw6]
  have sB7 := B7.size
  have hB := bt hB B7
  have m2 := m2.old B7
  have m3 := m3.old B7
  have m2_d := m2
  have m3_d := m3
  have hB_d := hB
  refine F.dv 0 7 (.fieldAddr 27 (.tmp 2) 0) hS (fun W hW => x_fa0 fa27_0 rfl) fun a F => F.dv 1 8 (.load 3 (.tmp 7)) hS (fun W hW => x_load rfl (m_load flat3 ((m2_d.k2 hW (by omega)).cell (j := 0) rfl))) fun a F => F.dv 2 9 (.fieldAddr 27 (.tmp 3) 0) hS (fun W hW => x_fa0 fa27_0 rfl) fun a F => F.dv 3 10 (.load 3 (.tmp 9)) hS (fun W hW => x_load rfl (m_load flat3 ((m3_d.k2 hW (by omega)).cell (j := 0) rfl))) fun a F => F.dv 4 11 (.binOp .neq 3 (.tmp 8) (.tmp 10) 3) hS (fun W hW => neqF (by omega) rfl rfl) fun a F => F.dv 5 12 (.move (.tmp 11)) hS (fun W hW => x_move rfl) fun a F => F.dg 6 13 12 5 false (.load 27 (.tmp 2)) hS rfl (fun W hW => x_ldW wide27 (m2_d.k2 hW (by omega)) rfl rfl) fun a F => F.dg 8 15 12 5 false (.load 27 (.tmp 3)) hS rfl (fun W hW => x_ldW wide27 (m3_d.k2 hW (by omega)) rfl rfl) fun a F => ?_
  refine d_oneg 7 12 (some 14) (.call (.mk (.value (.func 54)) #[(.tmp 13)] #[27])) (j := 5) (want := false) F (by kernel_rfl) (by kernel_rfl) (by kernel_rfl) rfl fun ty pos af => ?_
  refine s_callB [_] F E54 rfl (by decide) ((leaf70 (.odd k m) _ _ w0 w6 hx).mono fun e w' h => ⟨by rw [h.1, decide_eq_true hlc], h.2⟩) fun w8 a B9 F => ?_
  have sB9 := B9.size
  have hB := bt hB B9
  have m2 := m2.old B9
  have hS := hS.below B9
  refine s_end ⟨hS, ?_⟩
  refine d_oneg 9 12 (some 16) (.call (.mk (.value (.func 54)) #[(.tmp 15)] #[27])) (j := 5) (want := false) F (by kernel_rfl) (by kernel_rfl) (by kernel_rfl) rfl fun ty pos af => ?_
  refine s_callB [_] F E54 rfl (by decide) ((leaf70 (.odd k mb) _ _ w0 w8 hy).mono fun e w' h => ⟨by rw [h.1, decide_eq_true hld], h.2⟩) fun w10 a B11 F => ?_
  have sB11 := B11.size
  have hB := bt hB B11
  have m2 := m2.old B11
  have hS := hS.below B11
  refine s_end ⟨hS, ?_⟩
  refine F.dg 10 17 12 5 false (.binOp .neq 4 (.tmp 14) (.tmp 16) 4) hS rfl (fun W hW => x_neqBB Try.underlying4 rfl rfl) fun a F => F.dv 11 18 (.pick (.tmp 12) (.const (.bool true)) (.tmp 17)) hS (fun W hW => x_pick (b := false) rfl rfl) fun a F => ?_
  refine d_end (by kernel_rfl) (K4 _ _ ?_)
  refine wp_if F rfl ?_
  refine wp_skip (K2 _ _ ?_)
  refine wp_seq_k fun _ K5 => ?_
  refine wp_rs fun _ K6 => F.vl (x_ldW wide27 m2 rfl rfl) fun a F => ?_
  refine s_callB [_] F E54 rfl (by decide) ((leaf70 (.odd k m) _ _ w0 w10 hx).mono fun e w' h => ⟨by rw [h.1, decide_eq_true hlc], h.2⟩) fun w12 a B13 F => ?_
  have sB13 := B13.size
  have hB := bt hB B13
  refine s_end (K6 _ _ ?_)
  refine wp_if F rfl ?_
  refine wp_rs fun _ K7 => F.sg rfl fun a F => ?_
  refine s_end (K7 _ _ ?_)
  refine wp_ret (then_ret (res_slot F rfl rfl ⟨rfl, hB⟩))
 ·
  have hlc : ¬ (arT (CT.var n m).kd < 0 ∨ ((CT.var n m).len : Int) < arT (CT.var n m).kd) := by simp only [CT.kd, CT.len, show arT 1 = 0 from rfl]; omega
  have hld : ¬ (arT (CT.var n mb).kd < 0 ∨ ((CT.var n mb).len : Int) < arT (CT.var n mb).kd) := by simp only [CT.kd, CT.len, show arT 1 = 0 from rfl]; omega
  have hxn : xn = n := hx.2.1
  have hyn : yn = n := hy.2.1
  have hk1 : xk = 1 := hx.1
  have hk2 : yk = 1 := hy.1
  refine dk2_seq (w4.heap.size) (w4.heap.size) (ops := regOps Try.f45 1) (N := 12) (by kernel_rfl) wide_orders (by kernel_rfl) fun w14 hw14 B15 hS K8 hK8 => ?_
  have zw14 : w14.heap.size = w4.heap.size := by rw [hw14]
  have sB15 := B15.size
  have hB := bt hB B15
  have m2 := m2.old B15
  have m3 := m3.old B15
  have m2_d := m2
  have m3_d := m3
  have hB_d := hB
  refine F.dv 0 7 (.fieldAddr 27 (.tmp 2) 0) hS (fun W hW => x_fa0 fa27_0 rfl) fun a F => F.dv 1 8 (.load 3 (.tmp 7)) hS (fun W hW => x_load rfl (m_load flat3 ((m2_d.k2 hW (by omega)).cell (j := 0) rfl))) fun a F => F.dv 2 9 (.fieldAddr 27 (.tmp 3) 0) hS (fun W hW => x_fa0 fa27_0 rfl) fun a F => F.dv 3 10 (.load 3 (.tmp 9)) hS (fun W hW => x_load rfl (m_load flat3 ((m3_d.k2 hW (by omega)).cell (j := 0) rfl))) fun a F => F.dv 4 11 (.binOp .neq 3 (.tmp 8) (.tmp 10) 3) hS (fun W hW => neqF (by omega) rfl rfl) fun a F => F.dv 5 12 (.move (.tmp 11)) hS (fun W hW => x_move rfl) fun a F => F.dg 6 13 12 5 false (.load 27 (.tmp 2)) hS rfl (fun W hW => x_ldW wide27 (m2_d.k2 hW (by omega)) rfl rfl) fun a F => F.dg 8 15 12 5 false (.load 27 (.tmp 3)) hS rfl (fun W hW => x_ldW wide27 (m3_d.k2 hW (by omega)) rfl rfl) fun a F => ?_
  refine d_oneg 7 12 (some 14) (.call (.mk (.value (.func 54)) #[(.tmp 13)] #[27])) (j := 5) (want := false) F (by kernel_rfl) (by kernel_rfl) (by kernel_rfl) rfl fun ty pos af => ?_
  refine s_callB [_] F E54 rfl (by decide) ((leaf70 (.var n m) _ _ w0 w14 hx).mono fun e w' h => ⟨by rw [h.1, decide_eq_false hlc], h.2⟩) fun w16 a B17 F => ?_
  have sB17 := B17.size
  have hB := bt hB B17
  have m2 := m2.old B17
  have m3 := m3.old B17
  have hS := hS.below B17
  refine s_end ⟨hS, ?_⟩
  refine d_oneg 9 12 (some 16) (.call (.mk (.value (.func 54)) #[(.tmp 15)] #[27])) (j := 5) (want := false) F (by kernel_rfl) (by kernel_rfl) (by kernel_rfl) rfl fun ty pos af => ?_
  refine s_callB [_] F E54 rfl (by decide) ((leaf70 (.var n mb) _ _ w0 w16 hy).mono fun e w' h => ⟨by rw [h.1, decide_eq_false hld], h.2⟩) fun w18 a B19 F => ?_
  have sB19 := B19.size
  have hB := bt hB B19
  have m2 := m2.old B19
  have m3 := m3.old B19
  have hS := hS.below B19
  refine s_end ⟨hS, ?_⟩
  refine F.dg 10 17 12 5 false (.binOp .neq 4 (.tmp 14) (.tmp 16) 4) hS rfl (fun W hW => x_neqBB Try.underlying4 rfl rfl) fun a F => F.dv 11 18 (.pick (.tmp 12) (.const (.bool true)) (.tmp 17)) hS (fun W hW => x_pick (b := false) rfl rfl) fun a F => ?_
  refine d_end (by kernel_rfl) (hK8 _ _ ?_)
  refine wp_if F rfl ?_
  refine wp_skip (K2 _ _ ?_)
  refine wp_seq_k fun _ K9 => ?_
  refine wp_rs fun _ K10 => F.vl (x_ldW wide27 m2 rfl rfl) fun a F => ?_
  refine s_callB [_] F E54 rfl (by decide) ((leaf70 (.var n m) _ _ w0 w18 hx).mono fun e w' h => ⟨by rw [h.1, decide_eq_false hlc], h.2⟩) fun w20 a B21 F => ?_
  have sB21 := B21.size
  have hB := bt hB B21
  have m2 := m2.old B21
  have m3 := m3.old B21
  refine s_end (K10 _ _ ?_)
  refine wp_if F rfl ?_
  refine wp_skip (K9 _ _ ?_)
  refine wp_seq_k fun _ K11 => ?_
  refine wp_rs fun _ K12 => F.vl (x_fa0 fa27_0 rfl) fun a F => F.ld m2 flat3 rfl rfl fun a F => ?_
  refine s_end (K12 _ _ ?_)
  refine wp_block ?_
  refine wp_rs fun _ K13 => F.vl (eqlT (by omega) rfl rfl) fun a F => F.sg rfl fun a F => ?_
  refine s_end (K13 _ _ ?_)
  refine wp_if F rfl ?_
  refine wp_rs fun _ K14 => F.vl (x_fa0 fa27_1 rfl) fun a F => F.ld m2 flat3 rfl rfl fun a F => F.vl (x_fa0 fa27_1 rfl) fun a F => F.ld m3 flat3 rfl rfl fun a F => F.vl (eqlT (by omega) rfl rfl) fun a F => F.sg rfl fun a F => ?_
  refine s_end (K14 _ _ ?_)
  refine wp_ret (inb_ret (then_ret (res_slot F rfl rfl ⟨rfl, hB⟩)))
 ·
  have hlc : ¬ (arT (CT.sort l m).kd < 0 ∨ ((CT.sort l m).len : Int) < arT (CT.sort l m).kd) := by simp only [CT.kd, CT.len, show arT 2 = 0 from rfl]; omega
  have hld : ¬ (arT (CT.sort l2 mb).kd < 0 ∨ ((CT.sort l2 mb).len : Int) < arT (CT.sort l2 mb).kd) := by simp only [CT.kd, CT.len, show arT 2 = 0 from rfl]; omega
  have hk1 : xk = 2 := hx.1
  have hk2 : yk = 2 := hy.1
  refine dk2_seq (w4.heap.size) (w4.heap.size) (ops := regOps Try.f45 1) (N := 12) (by kernel_rfl) wide_orders (by kernel_rfl) fun w22 hw22 B23 hS K15 hK15 => ?_
  have zw22 : w22.heap.size = w4.heap.size := by rw [hw22]
  have sB23 := B23.size
  have hB := bt hB B23
  have m2 := m2.old B23
  have m3 := m3.old B23
  have m2_d := m2
  have m3_d := m3
  have hB_d := hB
  refine F.dv 0 7 (.fieldAddr 27 (.tmp 2) 0) hS (fun W hW => x_fa0 fa27_0 rfl) fun a F => F.dv 1 8 (.load 3 (.tmp 7)) hS (fun W hW => x_load rfl (m_load flat3 ((m2_d.k2 hW (by omega)).cell (j := 0) rfl))) fun a F => F.dv 2 9 (.fieldAddr 27 (.tmp 3) 0) hS (fun W hW => x_fa0 fa27_0 rfl) fun a F => F.dv 3 10 (.load 3 (.tmp 9)) hS (fun W hW => x_load rfl (m_load flat3 ((m3_d.k2 hW (by omega)).cell (j := 0) rfl))) fun a F => F.dv 4 11 (.binOp .neq 3 (.tmp 8) (.tmp 10) 3) hS (fun W hW => neqF (by omega) rfl rfl) fun a F => F.dv 5 12 (.move (.tmp 11)) hS (fun W hW => x_move rfl) fun a F => F.dg 6 13 12 5 false (.load 27 (.tmp 2)) hS rfl (fun W hW => x_ldW wide27 (m2_d.k2 hW (by omega)) rfl rfl) fun a F => F.dg 8 15 12 5 false (.load 27 (.tmp 3)) hS rfl (fun W hW => x_ldW wide27 (m3_d.k2 hW (by omega)) rfl rfl) fun a F => ?_
  refine d_oneg 7 12 (some 14) (.call (.mk (.value (.func 54)) #[(.tmp 13)] #[27])) (j := 5) (want := false) F (by kernel_rfl) (by kernel_rfl) (by kernel_rfl) rfl fun ty pos af => ?_
  refine s_callB [_] F E54 rfl (by decide) ((leaf70 (.sort l m) _ _ w0 w22 hx).mono fun e w' h => ⟨by rw [h.1, decide_eq_false hlc], h.2⟩) fun w24 a B25 F => ?_
  have sB25 := B25.size
  have hB := bt hB B25
  have m2 := m2.old B25
  have m3 := m3.old B25
  have hS := hS.below B25
  refine s_end ⟨hS, ?_⟩
  refine d_oneg 9 12 (some 16) (.call (.mk (.value (.func 54)) #[(.tmp 15)] #[27])) (j := 5) (want := false) F (by kernel_rfl) (by kernel_rfl) (by kernel_rfl) rfl fun ty pos af => ?_
  refine s_callB [_] F E54 rfl (by decide) ((leaf70 (.sort l2 mb) _ _ w0 w24 hy).mono fun e w' h => ⟨by rw [h.1, decide_eq_false hld], h.2⟩) fun w26 a B27 F => ?_
  have sB27 := B27.size
  have hB := bt hB B27
  have m2 := m2.old B27
  have m3 := m3.old B27
  have hS := hS.below B27
  refine s_end ⟨hS, ?_⟩
  refine F.dg 10 17 12 5 false (.binOp .neq 4 (.tmp 14) (.tmp 16) 4) hS rfl (fun W hW => x_neqBB Try.underlying4 rfl rfl) fun a F => F.dv 11 18 (.pick (.tmp 12) (.const (.bool true)) (.tmp 17)) hS (fun W hW => x_pick (b := false) rfl rfl) fun a F => ?_
  refine d_end (by kernel_rfl) (hK15 _ _ ?_)
  refine wp_if F rfl ?_
  refine wp_skip (K2 _ _ ?_)
  refine wp_seq_k fun _ K16 => ?_
  refine wp_rs fun _ K17 => F.vl (x_ldW wide27 m2 rfl rfl) fun a F => ?_
  refine s_callB [_] F E54 rfl (by decide) ((leaf70 (.sort l m) _ _ w0 w26 hx).mono fun e w' h => ⟨by rw [h.1, decide_eq_false hlc], h.2⟩) fun w28 a B29 F => ?_
  have sB29 := B29.size
  have hB := bt hB B29
  have m2 := m2.old B29
  have m3 := m3.old B29
  refine s_end (K17 _ _ ?_)
  refine wp_if F rfl ?_
  refine wp_skip (K16 _ _ ?_)
  refine wp_seq_k fun _ K18 => ?_
  refine wp_rs fun _ K19 => F.vl (x_fa0 fa27_0 rfl) fun a F => F.ld m2 flat3 rfl rfl fun a F => ?_
  refine s_end (K19 _ _ ?_)
  refine wp_block ?_
  refine wp_rs fun _ K20 => F.vl (eqlF (by omega) rfl rfl) fun a F => F.sg rfl fun a F => ?_
  refine s_end (K20 _ _ ?_)
  refine wp_if F rfl ?_
  refine wp_rs fun _ K21 => F.vl (eqlT (by omega) rfl rfl) fun a F => F.sg rfl fun a F => ?_
  refine s_end (K21 _ _ ?_)
  refine wp_if F rfl ?_
  refine wp_rs fun _ K22 => F.vl (x_fa0 fa27_3 rfl) fun a F => F.vl (x_load rfl (m_loadP (vs := [_, _, _]) wide24 m2 rfl)) fun a F => F.vl (x_fa0 fa27_3 rfl) fun a F => F.vl (x_load rfl (m_loadP (vs := [_, _, _]) wide24 m3 rfl)) fun a F => ?_
  refine s_callB [_, _] F E13 rfl (by decide) (sameLevel19 l l2 _ _ w28 ((RLn.rl hx.2.1).old hB) ((RLn.rl hy.2.1).old hB) hll) fun w30 a B31 F => ?_
  have sB31 := B31.size
  have hB := bt hB B31
  refine F.sg rfl fun a F => ?_
  refine s_end (K22 _ _ ?_)
  refine wp_ret (inb_ret (then_ret (res_slot F rfl rfl ⟨rfl, hB⟩)))
 ·
  have hlc : ¬ (arT (CT.cst sn ls m).kd < 0 ∨ ((CT.cst sn ls m).len : Int) < arT (CT.cst sn ls m).kd) := by simp only [CT.kd, CT.len, show arT 7 = 0 from rfl]; omega
  have hld : ¬ (arT (CT.cst sn ls2 mb).kd < 0 ∨ ((CT.cst sn ls2 mb).len : Int) < arT (CT.cst sn ls2 mb).kd) := by simp only [CT.kd, CT.len, show arT 7 = 0 from rfl]; omega
  have hk1 : xk = 7 := hx.1
  have hk2 : yk = 7 := hy.1
  have hV : RVn w0 (fun k => k < w0.heap.size) xls ls := hx.2.2.1
  have hU : RVn w0 (fun k => k < w0.heap.size) yls ls2 := hy.2.2.1
  have hxs : xs = sn := hx.2.1
  have hys : ys = sn := hy.2.1
  obtain ⟨a7, c7, h7, _⟩ := hV.form
  obtain ⟨a8, c8, h8, _⟩ := hU.form
  subst h7 h8
  have hll : ls.length = ls2.length := by have h := congrArg List.length hmp; simpa using h
  refine dk2_seq (w4.heap.size) (w4.heap.size) (ops := regOps Try.f45 1) (N := 12) (by kernel_rfl) wide_orders (by kernel_rfl) fun w32 hw32 B33 hS K23 hK23 => ?_
  have zw32 : w32.heap.size = w4.heap.size := by rw [hw32]
  have sB33 := B33.size
  have hB := bt hB B33
  have m2 := m2.old B33
  have m3 := m3.old B33
  have m2_d := m2
  have m3_d := m3
  have hB_d := hB
  refine F.dv 0 7 (.fieldAddr 27 (.tmp 2) 0) hS (fun W hW => x_fa0 fa27_0 rfl) fun a F => F.dv 1 8 (.load 3 (.tmp 7)) hS (fun W hW => x_load rfl (m_load flat3 ((m2_d.k2 hW (by omega)).cell (j := 0) rfl))) fun a F => F.dv 2 9 (.fieldAddr 27 (.tmp 3) 0) hS (fun W hW => x_fa0 fa27_0 rfl) fun a F => F.dv 3 10 (.load 3 (.tmp 9)) hS (fun W hW => x_load rfl (m_load flat3 ((m3_d.k2 hW (by omega)).cell (j := 0) rfl))) fun a F => F.dv 4 11 (.binOp .neq 3 (.tmp 8) (.tmp 10) 3) hS (fun W hW => neqF (by omega) rfl rfl) fun a F => F.dv 5 12 (.move (.tmp 11)) hS (fun W hW => x_move rfl) fun a F => F.dg 6 13 12 5 false (.load 27 (.tmp 2)) hS rfl (fun W hW => x_ldW wide27 (m2_d.k2 hW (by omega)) rfl rfl) fun a F => F.dg 8 15 12 5 false (.load 27 (.tmp 3)) hS rfl (fun W hW => x_ldW wide27 (m3_d.k2 hW (by omega)) rfl rfl) fun a F => ?_
  refine d_oneg 7 12 (some 14) (.call (.mk (.value (.func 54)) #[(.tmp 13)] #[27])) (j := 5) (want := false) F (by kernel_rfl) (by kernel_rfl) (by kernel_rfl) rfl fun ty pos af => ?_
  refine s_callB [_] F E54 rfl (by decide) ((leaf70 (.cst sn ls m) _ _ w0 w32 hx).mono fun e w' h => ⟨by rw [h.1, decide_eq_false hlc], h.2⟩) fun w34 a B35 F => ?_
  have sB35 := B35.size
  have hB := bt hB B35
  have m2 := m2.old B35
  have m3 := m3.old B35
  have hS := hS.below B35
  refine s_end ⟨hS, ?_⟩
  refine d_oneg 9 12 (some 16) (.call (.mk (.value (.func 54)) #[(.tmp 15)] #[27])) (j := 5) (want := false) F (by kernel_rfl) (by kernel_rfl) (by kernel_rfl) rfl fun ty pos af => ?_
  refine s_callB [_] F E54 rfl (by decide) ((leaf70 (.cst sn ls2 mb) _ _ w0 w34 hy).mono fun e w' h => ⟨by rw [h.1, decide_eq_false hld], h.2⟩) fun w36 a B37 F => ?_
  have sB37 := B37.size
  have hB := bt hB B37
  have m2 := m2.old B37
  have m3 := m3.old B37
  have hS := hS.below B37
  refine s_end ⟨hS, ?_⟩
  refine F.dg 10 17 12 5 false (.binOp .neq 4 (.tmp 14) (.tmp 16) 4) hS rfl (fun W hW => x_neqBB Try.underlying4 rfl rfl) fun a F => F.dv 11 18 (.pick (.tmp 12) (.const (.bool true)) (.tmp 17)) hS (fun W hW => x_pick (b := false) rfl rfl) fun a F => ?_
  refine d_end (by kernel_rfl) (hK23 _ _ ?_)
  refine wp_if F rfl ?_
  refine wp_skip (K2 _ _ ?_)
  refine wp_seq_k fun _ K24 => ?_
  refine wp_rs fun _ K25 => F.vl (x_ldW wide27 m2 rfl rfl) fun a F => ?_
  refine s_callB [_] F E54 rfl (by decide) ((leaf70 (.cst sn ls m) _ _ w0 w36 hx).mono fun e w' h => ⟨by rw [h.1, decide_eq_false hlc], h.2⟩) fun w38 a B39 F => ?_
  have sB39 := B39.size
  have hB := bt hB B39
  have m2 := m2.old B39
  have m3 := m3.old B39
  refine s_end (K25 _ _ ?_)
  refine wp_if F rfl ?_
  refine wp_skip (K24 _ _ ?_)
  refine wp_seq_k fun _ K26 => ?_
  refine wp_rs fun _ K27 => F.vl (x_fa0 fa27_0 rfl) fun a F => F.ld m2 flat3 rfl rfl fun a F => ?_
  refine s_end (K27 _ _ ?_)
  refine wp_block ?_
  refine wp_rs fun _ K28 => F.vl (eqlF (by omega) rfl rfl) fun a F => F.sg rfl fun a F => ?_
  refine s_end (K28 _ _ ?_)
  refine wp_if F rfl ?_
  refine wp_rs fun _ K29 => F.vl (eqlF (by omega) rfl rfl) fun a F => F.sg rfl fun a F => ?_
  refine s_end (K29 _ _ ?_)
  refine wp_if F rfl ?_
  refine wp_rs fun _ K30 => F.vl (eqlT (by omega) rfl rfl) fun a F => F.sg rfl fun a F => ?_
  refine s_end (K30 _ _ ?_)
  refine wp_if F rfl ?_
  refine wp_seq_k fun _ K31 => ?_
  refine wp_rs fun _ K32 => F.vl (x_fa0 fa27_2 rfl) fun a F => F.ld m2 flat9 rfl rfl fun a F => F.vl (x_fa0 fa27_2 rfl) fun a F => F.ld m3 flat9 rfl rfl fun a F => F.vl (x_neS9 (b := false) (decide_eq_false (fun h => h (hxs.trans hys.symm))) rfl rfl) fun a F => F.mv rfl fun a F => s_grd 44 F rfl rfl rfl <| F.vl (x_fa0 fa27_4 rfl) fun a F => s_grd 44 F rfl rfl rfl <| F.ld m2 flat22 rfl rfl fun a F => s_grd 44 F rfl rfl rfl <| F.vl (x_len Try.underlying22 rfl) fun a F => s_grd 44 F rfl rfl rfl <| F.vl (x_fa0 fa27_4 rfl) fun a F => s_grd 44 F rfl rfl rfl <| F.ld m3 flat22 rfl rfl fun a F => s_grd 44 F rfl rfl rfl <| F.vl (x_len Try.underlying22 rfl) fun a F => s_grd 44 F rfl rfl rfl <| F.vl (neqF (by omega) rfl rfl) fun a F => F.vl (x_pick (b := false) rfl rfl) fun a F => ?_
  refine s_end (K32 _ _ ?_)
  refine wp_if F rfl ?_
  refine wp_skip (K31 _ _ ?_)
  refine wp_seq_k fun _ K33 => ?_
  refine wp_rs fun _ K34 => F.vl (x_fa0 fa27_4 rfl) fun a F => F.ld m2 flat22 rfl rfl fun a F => F.vl (x_len Try.underlying22 rfl) fun a F => F.mv rfl fun a F => ?_
  refine s_end (K34 _ _ ?_)
  refine wp_block ?_
  refine wp_up ls.length (fun i a w => Blk w b2 27 [.int .i64 xk, .int .i64 xn, .string xs, .int .i64 xl.1, .int .i64 xl.2.1, xl.2.2, .slice a7 ls.length c7, .slice av nv cv] ∧ Blk w b3 27 [.int .i64 yk, .int .i64 yn, .string ys, .int .i64 yl.1, .int .i64 yl.2.1, yl.2.2, .slice a8 ls2.length c8, .slice au nu cu] ∧ Below w0.heap.size w0 w ∧ Fs 91 a [(2, .pointer (some ⟨b2, 0, none⟩)), (3, .pointer (some ⟨b3, 0, none⟩)), (55, .int .i64 (ls.length : Int)), (56, .int .i64 (i : Int))]) ⟨m2, m3, hB, F.sub _ rfl⟩ ?_
  have hbb : w0.heap.size ≤ b2 ∧ w0.heap.size ≤ b3 := by omega
  repeat clear F
  clear hB m2 m3
  rintro i a w hi ⟨m2, m3, hB, F⟩ K' hK'
  have sB := hB.size
  have hm2l := m2.lt
  have hm3l := m3.lt
  refine wp_rs fun _ K35 => F.vl (x_lss (b := decide (i < ls.length)) (decide_eq_decide.2 (by omega)) rfl rfl) fun a F => ?_
  refine s_end (K35 _ _ ?_)
  refine wp_seq_k fun _ K36 => ?_
  refine wp_iff F rfl (fun hc57 => ?_) (fun hc57 => ?_)
  ·
   obtain ⟨b9, off9, c9, y9, p, hve, hpi, hry, hAb, hbl, hrow⟩ := hV.row (i := i) (by omega)
   cases hve
   obtain ⟨b8, off8, c8, y8, q, hve, hqi, hrq, hAb8, hbl8, hrow8⟩ := hU.row (i := i) (by omega)
   cases hve
   have hpq : slO p = slO q := by have h1 := congrArg (·[i]?) hmp; simpa [hpi, hqi] using h1
   refine wp_skip (K36 _ _ ?_)
   refine wp_seq_k fun _ K37 => ?_
   refine wp_block ?_
   refine wp_rs fun _ K38 => F.mv rfl fun a F => F.sg rfl fun a F => ?_
   refine s_end (K38 _ _ ?_)
   refine dk2_seq (w.heap.size) (w.heap.size) (ops := regOps Try.f45 16) (N := 12) (by kernel_rfl) wide_orders (by kernel_rfl) fun w40 hw40 B41 hS K39 hK39 => ?_
   have zw40 : w40.heap.size = w.heap.size := by rw [hw40]
   have sB41 := B41.size
   have hB := bt hB B41
   have m2 := m2.old B41
   have m3 := m3.old B41
   have m2_d := m2
   have m3_d := m3
   have hB_d := hB
   refine F.dv 0 59 (.fieldAddr 27 (.tmp 2) 4) hS (fun W hW => x_fa0 fa27_4 rfl) fun a F => F.dv 1 60 (.load 22 (.tmp 59)) hS (fun W hW => x_load rfl (m_load flat22 ((m2_d.k2 hW (by omega)).cell (j := 6) rfl))) fun a F => F.dv 2 61 (.move (.tmp 5)) hS (fun W hW => x_move rfl) fun a F => F.dv 3 62 (.indexAddr 22 (.tmp 60) (.tmp 61)) hS (fun W hW => x_ixa rfl rfl (m_ixsK i Try.underlying22 el22.size rfl (by omega))) fun a F => F.dv 4 63 (.load 24 (.tmp 62)) hS (fun W hW => x_ldA wide24 (hrow _ ((hW.under hB_d (by omega)).block _ hbl)) rfl rfl) fun a F => F.dv 5 64 (.fieldAddr 27 (.tmp 3) 4) hS (fun W hW => x_fa0 fa27_4 rfl) fun a F => F.dv 6 65 (.load 22 (.tmp 64)) hS (fun W hW => x_load rfl (m_load flat22 ((m3_d.k2 hW (by omega)).cell (j := 6) rfl))) fun a F => F.dv 7 66 (.move (.tmp 5)) hS (fun W hW => x_move rfl) fun a F => F.dv 8 67 (.indexAddr 22 (.tmp 65) (.tmp 66)) hS (fun W hW => x_ixa rfl rfl (m_ixsK i Try.underlying22 el22.size rfl (by omega))) fun a F => F.dv 9 68 (.load 24 (.tmp 67)) hS (fun W hW => x_ldA wide24 (hrow8 _ ((hW.under hB_d (by omega)).block _ hbl8)) rfl rfl) fun a F => ?_
   refine d1 10 (some 69) (.call (.mk (.value (.func 13)) #[(.tmp 63), (.tmp 68)] #[24, 24])) fun ty pos af => ?_
   refine s_callB [_, _] F E13 rfl (by decide) (sameLevel19 p q y9 y8 w40 ((RLn.rl hry).old hB) ((RLn.rl hrq).old hB) hpq) fun w42 a B43 F => ?_
   have sB43 := B43.size
   have hB := bt hB B43
   have m2 := m2.old B43
   have m3 := m3.old B43
   have hS := hS.below B43
   refine s_end ⟨hS, ?_⟩
   refine F.dv 11 70 (.unOp .not 4 (.tmp 69)) hS (fun W hW => x_not rfl) fun a F => ?_
   refine d_end (by kernel_rfl) (hK39 _ _ ?_)
   refine wp_if F rfl ?_
   refine wp_skip (K37 _ _ ?_)
   refine wp_region_lit ?_
   refine F.vl (x_addn (i + 1) (by omega) (by omega) rfl rfl) fun a F => F.mv rfl fun a F => ?_
   refine s_end (hK' _ _ (by omega) ⟨m2, m3, hB, F.sub _ rfl⟩)
  ·
   refine wp_exit (K33 _ _ ?_)
   refine wp_rs fun _ K40 => F.sg rfl fun a F => ?_
   refine s_end (K40 _ _ ?_)
   refine wp_ret (inb_ret (then_ret (res_slot F rfl rfl ⟨rfl, hB⟩)))
 ·
  obtain ⟨hk7, hnr⟩ := near_twoL hx hcs
  have hlc := hnr.lc
  have hld := hnr.ld
  have hk1 := hnr.kd
  have har := hnr.ar
  have hln := hnr.ln
  have hk3 := c.kids_le
  refine dk2_seq (w4.heap.size) (w4.heap.size) (ops := regOps Try.f45 1) (N := 12) (by kernel_rfl) wide_orders (by kernel_rfl) fun w44 hw44 B45 hS K41 hK41 => ?_
  have zw44 : w44.heap.size = w4.heap.size := by rw [hw44]
  have sB45 := B45.size
  have hB := bt hB B45
  have m2 := m2.old B45
  have m3 := m3.old B45
  have m2_d := m2
  have m3_d := m3
  have hB_d := hB
  refine F.dv 0 7 (.fieldAddr 27 (.tmp 2) 0) hS (fun W hW => x_fa0 fa27_0 rfl) fun a F => F.dv 1 8 (.load 3 (.tmp 7)) hS (fun W hW => x_load rfl (m_load flat3 ((m2_d.k2 hW (by omega)).cell (j := 0) rfl))) fun a F => F.dv 2 9 (.fieldAddr 27 (.tmp 3) 0) hS (fun W hW => x_fa0 fa27_0 rfl) fun a F => F.dv 3 10 (.load 3 (.tmp 9)) hS (fun W hW => x_load rfl (m_load flat3 ((m3_d.k2 hW (by omega)).cell (j := 0) rfl))) fun a F => F.dv 4 11 (.binOp .neq 3 (.tmp 8) (.tmp 10) 3) hS (fun W hW => neqF (by omega) rfl rfl) fun a F => F.dv 5 12 (.move (.tmp 11)) hS (fun W hW => x_move rfl) fun a F => F.dg 6 13 12 5 false (.load 27 (.tmp 2)) hS rfl (fun W hW => x_ldW wide27 (m2_d.k2 hW (by omega)) rfl rfl) fun a F => F.dg 8 15 12 5 false (.load 27 (.tmp 3)) hS rfl (fun W hW => x_ldW wide27 (m3_d.k2 hW (by omega)) rfl rfl) fun a F => ?_
  refine d_oneg 7 12 (some 14) (.call (.mk (.value (.func 54)) #[(.tmp 13)] #[27])) (j := 5) (want := false) F (by kernel_rfl) (by kernel_rfl) (by kernel_rfl) rfl fun ty pos af => ?_
  refine s_callB [_] F E54 rfl (by decide) ((leaf70 c _ _ w0 w44 hx).mono fun e w' h => ⟨by rw [h.1, decide_eq_false hlc], h.2⟩) fun w46 a B47 F => ?_
  have sB47 := B47.size
  have hB := bt hB B47
  have m2 := m2.old B47
  have m3 := m3.old B47
  have hS := hS.below B47
  refine s_end ⟨hS, ?_⟩
  refine d_oneg 9 12 (some 16) (.call (.mk (.value (.func 54)) #[(.tmp 15)] #[27])) (j := 5) (want := false) F (by kernel_rfl) (by kernel_rfl) (by kernel_rfl) rfl fun ty pos af => ?_
  refine s_callB [_] F E54 rfl (by decide) ((leaf70 d _ _ w0 w46 hy).mono fun e w' h => ⟨by rw [h.1, decide_eq_false hld], h.2⟩) fun w48 a B49 F => ?_
  have sB49 := B49.size
  have hB := bt hB B49
  have m2 := m2.old B49
  have m3 := m3.old B49
  have hS := hS.below B49
  refine s_end ⟨hS, ?_⟩
  refine F.dg 10 17 12 5 false (.binOp .neq 4 (.tmp 14) (.tmp 16) 4) hS rfl (fun W hW => x_neqBB Try.underlying4 rfl rfl) fun a F => F.dv 11 18 (.pick (.tmp 12) (.const (.bool true)) (.tmp 17)) hS (fun W hW => x_pick (b := false) rfl rfl) fun a F => ?_
  refine d_end (by kernel_rfl) (hK41 _ _ ?_)
  refine wp_if F rfl ?_
  refine wp_skip (K2 _ _ ?_)
  refine wp_seq_k fun _ K42 => ?_
  refine wp_rs fun _ K43 => F.vl (x_ldW wide27 m2 rfl rfl) fun a F => ?_
  refine s_callB [_] F E54 rfl (by decide) ((leaf70 c _ _ w0 w48 hx).mono fun e w' h => ⟨by rw [h.1, decide_eq_false hlc], h.2⟩) fun w50 a B51 F => ?_
  have sB51 := B51.size
  have hB := bt hB B51
  have m2 := m2.old B51
  have m3 := m3.old B51
  refine s_end (K43 _ _ ?_)
  refine wp_if F rfl ?_
  refine wp_skip (K42 _ _ ?_)
  refine wp_seq_k fun _ K44 => ?_
  refine wp_rs fun _ K45 => F.vl (x_fa0 fa27_0 rfl) fun a F => F.ld m2 flat3 rfl rfl fun a F => ?_
  refine s_end (K45 _ _ ?_)
  refine wp_block ?_
  refine wp_rs fun _ K46 => F.vl (eqlF (by omega) rfl rfl) fun a F => F.sg rfl fun a F => ?_
  refine s_end (K46 _ _ ?_)
  refine wp_if F rfl ?_
  refine wp_rs fun _ K47 => F.vl (eqlF (by omega) rfl rfl) fun a F => F.sg rfl fun a F => ?_
  refine s_end (K47 _ _ ?_)
  refine wp_if F rfl ?_
  refine wp_rs fun _ K48 => F.vl (eqlF (by omega) rfl rfl) fun a F => F.sg rfl fun a F => ?_
  refine s_end (K48 _ _ ?_)
  refine wp_if F rfl ?_
  refine wp_skip (K44 _ _ ?_)
  refine wp_seq_k fun _ K49 => ?_
  refine wp_rs fun _ K50 => F.vl (x_fa0 fa27_0 rfl) fun a F => F.ld m2 flat3 rfl rfl fun a F => ?_
  refine s_callS [_] F E82 rfl (by decide) ((kids54 xk w50).mono fun e w' h => ⟨(by rw [h.1, hkd] : e = .returned (.int .i64 (arT c.kd))), h.2⟩) fun a F => ?_
  refine F.mv rfl fun a F => ?_
  refine s_end (K50 _ _ ?_)
  refine wp_block ?_
  refine wp_up c.kids.length (fun i a w => Blk w b2 27 [.int .i64 xk, .int .i64 xn, .string xs, .int .i64 xl.1, .int .i64 xl.2.1, xl.2.2, xls, .slice av nv cv] ∧ Blk w b3 27 [.int .i64 yk, .int .i64 yn, .string ys, .int .i64 yl.1, .int .i64 yl.2.1, yl.2.2, yls, .slice au nu cu] ∧ Below w0.heap.size w0 w ∧ Fs 91 a [(2, .pointer (some ⟨b2, 0, none⟩)), (3, .pointer (some ⟨b3, 0, none⟩)), (74, .int .i64 (arT c.kd)), (75, .int .i64 (i : Int))]) ⟨m2, m3, hB, F.sub _ rfl⟩ ?_
  have hbb : w0.heap.size ≤ b2 ∧ w0.heap.size ≤ b3 := by omega
  repeat clear F
  clear hB m2 m3
  rintro i a w hi ⟨m2, m3, hB, F⟩ K' hK'
  have sB := hB.size
  have hm2l := m2.lt
  have hm3l := m3.lt
  refine wp_rs fun _ K51 => F.vl (x_lss (b := decide (i < c.kids.length)) (decide_eq_decide.2 (by omega)) rfl rfl) fun a F => ?_
  refine s_end (K51 _ _ ?_)
  refine wp_seq_k fun _ K52 => ?_
  refine wp_iff F rfl (fun hc76 => ?_) (fun hc76 => ?_)
  ·
   obtain ⟨b9, off9, c9, y9, p, hve, hyk, hry, hAb, hbl, hrow⟩ := hkid.row (i := i) (by omega)
   cases hve
   obtain ⟨b8, off8, c8, y8, q, hve, hyq, hrq, hAb8, hbl8, hrow8⟩ := hkiu.row (i := i) (by omega)
   cases hve
   have hks := CT.kid_size hyk
   have hpq := hnr.kids i p q hyk hyq
   refine wp_skip (K52 _ _ ?_)
   refine wp_seq_k fun _ K53 => ?_
   refine wp_block ?_
   refine wp_rs fun _ K54 => F.mv rfl fun a F => F.sg rfl fun a F => ?_
   refine s_end (K54 _ _ ?_)
   refine dk2_seq (w.heap.size) (w.heap.size) (ops := regOps Try.f45 23) (N := 12) (by kernel_rfl) wide_orders (by kernel_rfl) fun w52 hw52 B53 hS K55 hK55 => ?_
   have zw52 : w52.heap.size = w.heap.size := by rw [hw52]
   have sB53 := B53.size
   have hB := bt hB B53
   have m2 := m2.old B53
   have m3 := m3.old B53
   have m2_d := m2
   have m3_d := m3
   have hB_d := hB
   refine F.dv 0 78 (.fieldAddr 27 (.tmp 2) 5) hS (fun W hW => x_fa0 fa27_5 rfl) fun a F => F.dv 1 79 (.load 25 (.tmp 78)) hS (fun W hW => x_load rfl (m_load flat25 ((m2_d.k2 hW (by omega)).cell (j := 7) rfl))) fun a F => F.dv 2 80 (.move (.tmp 6)) hS (fun W hW => x_move rfl) fun a F => F.dv 3 81 (.indexAddr 25 (.tmp 79) (.tmp 80)) hS (fun W hW => x_ixa rfl rfl (m_ixsK i Try.underlying25 el25.size rfl (by omega))) fun a F => F.dv 4 82 (.load 27 (.tmp 81)) hS (fun W hW => x_ldA wide27 (hrow _ ((hW.under hB_d (by omega)).block _ hbl)) rfl rfl) fun a F => F.dv 5 83 (.fieldAddr 27 (.tmp 3) 5) hS (fun W hW => x_fa0 fa27_5 rfl) fun a F => F.dv 6 84 (.load 25 (.tmp 83)) hS (fun W hW => x_load rfl (m_load flat25 ((m3_d.k2 hW (by omega)).cell (j := 7) rfl))) fun a F => F.dv 7 85 (.move (.tmp 6)) hS (fun W hW => x_move rfl) fun a F => F.dv 8 86 (.indexAddr 25 (.tmp 84) (.tmp 85)) hS (fun W hW => x_ixa rfl rfl (m_ixsK i Try.underlying25 el25.size rfl (by omega))) fun a F => F.dv 9 87 (.load 27 (.tmp 86)) hS (fun W hW => x_ldA wide27 (hrow8 _ ((hW.under hB_d (by omega)).block _ hbl8)) rfl rfl) fun a F => ?_
   refine d1 10 (some 88) (.call (.mk (.value (.func 45)) #[(.tmp 82), (.tmp 87)] #[27, 27])) fun ty pos af => ?_
   refine s_callB [_, _] F E45 rfl (by decide) (ih p q y9 y8 w52 (by omega) (hry.bel hB) (hrq.bel hB) hpq.1 hpq.2) fun w54 a B55 F => ?_
   have sB55 := B55.size
   have hB := bt hB B55
   have m2 := m2.old B55
   have m3 := m3.old B55
   have hS := hS.below B55
   refine s_end ⟨hS, ?_⟩
   refine F.dv 11 89 (.unOp .not 4 (.tmp 88)) hS (fun W hW => x_not rfl) fun a F => ?_
   refine d_end (by kernel_rfl) (hK55 _ _ ?_)
   refine wp_if F rfl ?_
   refine wp_skip (K53 _ _ ?_)
   refine wp_region_lit ?_
   refine F.vl (x_addn (i + 1) (by omega) (by omega) rfl rfl) fun a F => F.mv rfl fun a F => ?_
   refine s_end (hK' _ _ (by omega) ⟨m2, m3, hB, F.sub _ rfl⟩)
  ·
   refine wp_exit (K49 _ _ ?_)
   refine wp_rs fun _ K56 => F.sg rfl fun a F => ?_
   refine s_end (K56 _ _ ?_)
   refine wp_ret (res_slot F rfl rfl ⟨rfl, hB⟩)
theorem alike23L (c d : CT) (x y : C8) (w0 : World) (hx : RC w0 (fun k => k < w0.heap.size) c x) (hy : RC w0 (fun k => k < w0.heap.size) d y) (he : c.ess = d.ess) (hp : c.ess.fit) : Calls Try.prog 17 #[tv x, tv y] w0 fun e w' => e = .returned (.bool true) ∧ Below w0.heap.size w0 w' := by
 have hok : c.ok ↔ d.ok := by rw [← c.ok_ess, ← d.ok_ess, he]
 have hB := Below.refl w0.heap.size w0
 have sB := hB.size
 refine calls_fs 19 [(0, tv x), (1, tv y)] Try.func17 rfl rfl rfl rfl rfl fun a F => ?_
 refine wp_rs fun _ K1 => ?_
 refine s_box (tc x) F (by decide) rfl rfl fun w2 b2 a eb2 m2 B3 zb2 F => ?_
 have sB3 := B3.size
 have hB := bt hB B3
 refine s_box (tc y) F (by decide) rfl rfl fun w4 b3 a eb3 m3 B5 zb3 F => ?_
 have sB5 := B5.size
 have hB := bt hB B5
 have m2 := m2.old B5
 refine F.sg rfl fun a F => ?_
 refine s_end (K1 _ _ ?_)
 refine wp_seq_k fun _ K2 => ?_
 rcases (show ¬ c.ok ∨ c.ok by by_cases h : c.ok <;> simp [h]) with hk1 | hk1
 ·
  skip
  refine wp_rs fun _ K4 => F.vl (x_ldW wide27 m2 rfl rfl) fun a F => ?_
  refine s_callB [_] F E8 rfl (by decide) ((TooGreat14 c x w4 (hx.bel hB)).mono fun e w' h => ⟨by rw [h.1, decide_eq_true (p := ¬ c.ok) hk1], h.2⟩) fun w6 a B7 F => ?_
  have sB7 := B7.size
  have hB := bt hB B7
  have m2 := m2.old B7
  have m3 := m3.old B7
  refine F.mv rfl fun a F => s_grdn 7 F rfl rfl (by decide) fun a F => s_grdn 7 F rfl rfl (by decide) fun a F => F.vl (x_pick (b := true) rfl rfl) fun a F => ?_
  refine s_end (K4 _ _ ?_)
  refine wp_if F rfl ?_
  refine dk2_seq (w6.heap.size) (w6.heap.size) (ops := regOps Try.f17 2) (N := 6) (by kernel_rfl) wide_orders (by kernel_rfl) fun w8 hw8 B9 hS K5 K5 => ?_
  have zw8 : w8.heap.size = w6.heap.size := by rw [hw8]
  have sB9 := B9.size
  have hB := bt hB B9
  have m2 := m2.old B9
  have m3 := m3.old B9
  have m2_d := m2
  have m3_d := m3
  have hB_d := hB
  refine F.dv 0 11 (.load 27 (.tmp 2)) hS (fun W hW => x_ldW wide27 (m2_d.k2 hW (by omega)) rfl rfl) fun a F => F.dv 2 13 (.load 27 (.tmp 3)) hS (fun W hW => x_ldW wide27 (m3_d.k2 hW (by omega)) rfl rfl) fun a F => ?_
  refine d1 1 (some 12) (.call (.mk (.value (.func 8)) #[(.tmp 11)] #[27])) fun ty pos af => ?_
  refine s_callB [_] F E8 rfl (by decide) ((TooGreat14 c x w8 (hx.bel hB)).mono fun e w' h => ⟨by rw [h.1, decide_eq_true (p := ¬ c.ok) hk1], h.2⟩) fun w10 a B11 F => ?_
  have sB11 := B11.size
  have hB := bt hB B11
  have hS := hS.below B11
  refine s_end ⟨hS, ?_⟩
  refine d1 3 (some 14) (.call (.mk (.value (.func 8)) #[(.tmp 13)] #[27])) fun ty pos af => ?_
  refine s_callB [_] F E8 rfl (by decide) ((TooGreat14 d y w10 (hy.bel hB)).mono fun e w' h => ⟨by rw [h.1, decide_eq_true (p := ¬ d.ok) (fun h => hk1 (hok.2 h))], h.2⟩) fun w12 a B13 F => ?_
  have sB13 := B13.size
  have hB := bt hB B13
  have hS := hS.below B13
  refine s_end ⟨hS, ?_⟩
  refine F.dv 4 15 (.binOp .eql 4 (.tmp 12) (.tmp 14) 4) hS (fun W hW => x_eqB (b := true) Try.underlying4 (by simp) rfl rfl) fun a F => F.dv 5 4 (.assign (.tmp 15)) hS (fun W hW => x_assign rfl) fun a F => ?_
  refine d_end (by kernel_rfl) (K5 _ _ ?_)
  refine wp_ret (then_ret (res_slot F rfl rfl ⟨rfl, hB⟩))
 ·
  skip
  refine wp_rs fun _ K6 => F.vl (x_ldW wide27 m2 rfl rfl) fun a F => ?_
  refine s_callB [_] F E8 rfl (by decide) ((TooGreat14 c x w4 (hx.bel hB)).mono fun e w' h => ⟨by rw [h.1, decide_eq_false (p := ¬ c.ok) (fun h => h hk1)], h.2⟩) fun w14 a B15 F => ?_
  have sB15 := B15.size
  have hB := bt hB B15
  have m2 := m2.old B15
  have m3 := m3.old B15
  refine F.mv rfl fun a F => s_grd 7 F rfl rfl rfl <| F.vl (x_ldW wide27 m3 rfl rfl) fun a F => s_grd 7 F rfl rfl rfl ?_
  refine s_callB [_] F E8 rfl (by decide) ((TooGreat14 d y w14 (hy.bel hB)).mono fun e w' h => ⟨by rw [h.1, decide_eq_false (p := ¬ d.ok) (fun h => h (hok.1 hk1))], h.2⟩) fun w16 a B17 F => ?_
  have sB17 := B17.size
  have hB := bt hB B17
  have m2 := m2.old B17
  have m3 := m3.old B17
  refine F.vl (x_pick (b := false) rfl rfl) fun a F => ?_
  refine s_end (K6 _ _ ?_)
  refine wp_if F rfl ?_
  refine wp_skip (K2 _ _ ?_)
  refine wp_rs fun _ K7 => F.vl (x_ldW wide27 m2 rfl rfl) fun a F => F.vl (x_ldW wide27 m3 rfl rfl) fun a F => ?_
  refine s_callB [_, _] F E45 rfl (by decide) (near61L (c.size + 1) c d x y w16 (by omega) (hx.bel hB) (hy.bel hB) he hp) fun w18 a B19 F => ?_
  have sB19 := B19.size
  have hB := bt hB B19
  refine F.sg rfl fun a F => ?_
  refine s_end (K7 _ _ ?_)
  refine wp_ret (res_slot F rfl rfl ⟨rfl, hB⟩)
end Go.Proofs.Ytmkjhdiepkpdoaa

namespace Go.Proofs.Ytmkjhdiepkpdoaa
set_option maxRecDepth 100000
set_option maxHeartbeats 1600000
open Go.RowKit Go.Shelf
set_option linter.unusedVariables false
set_option linter.unusedSimpArgs false
theorem rRaw65 (A : Nat → Prop) (c : CT) (x : C8) (cs : List CT) (v : Value) (w0 : World) (hA : ∀ k, A k → k < w0.heap.size) (hxA : RC w0 A c x) (hV : RK w0 A v cs) (hlen : cs.length ≤ 1000000) : Calls Try.prog 49 #[tv x, v] w0 fun e w' => ∃ u, e = .returned u ∧ (∃ y, u = tv y ∧ RE w' (AS A w0.heap.size) (PT.apps c.ess (cs.map CT.ess)) y) ∧ Below w0.heap.size w0 w' := by
 obtain ⟨av, cv, hve, _⟩ := hV.form
 subst hve
 have hB := Below.refl w0.heap.size w0
 have sB := hB.size
 refine calls_fs 18 [(0, tv x), (1, .slice av cs.length cv)] Try.func49 rfl rfl rfl rfl rfl fun a F => ?_
 refine wp_rs fun _ K1 => ?_
 refine s_box (tc x) F (by decide) rfl rfl fun w2 b2 a eb2 m2 B3 zb2 F => ?_
 have sB3 := B3.size
 have hB := bt hB B3
 refine s_alloc F (by decide) zero27 fun w4 b4 a eb4 m4 B5 zb4 F => ?_
 have sB5 := B5.size
 have hB := bt hB B5
 have m2 := m2.old B5
 refine s_end (K1 _ _ ?_)
 refine wp_seq_k fun _ K2 => ?_
 refine wp_rs fun _ K3 => F.mv rfl fun a F => F.vl (x_len Try.underlying25 rfl) fun a F => F.mv rfl fun a F => ?_
 refine s_end (K3 _ _ ?_)
 refine wp_block ?_
 refine wp_up cs.length (fun i a w => ∃ c9 y9, c9.ess = PT.apps c.ess ((cs.take i).map CT.ess) ∧ RC w (fun k => ((A k ∨ w0.heap.size ≤ k) ∧ k ≠ b2 ∧ k ≠ b4) ∧ k < w.heap.size) c9 y9 ∧ Blk w b2 27 (tc y9) ∧ Blk w b4 27 z8 ∧ Below w0.heap.size w0 w ∧ Fs 18 a [(2, .pointer (some ⟨b2, 0, none⟩)), (4, .pointer (some ⟨b4, 0, none⟩)), (7, .slice av cs.length cv), (8, .int .i64 (cs.length : Int)), (9, .int .i64 (i : Int))]) ⟨c, x, rfl, (hxA.keep hB.size (fun k hk _ => hB.block k (hA k hk))).mono (fun k hk => by have := hA k hk; exact ⟨⟨.inl hk, by omega, by omega⟩, by omega⟩), m2, m4, hB, F.sub _ rfl⟩ ?_
 have hbb : w0.heap.size ≤ b2 ∧ b2 < b4 := ⟨by omega, by omega⟩
 repeat clear F
 clear hB m2 m4
 rintro i a w hi ⟨c9, y9, he9, hc9, m2, m4, hB, F⟩ K' hK'
 have sB := hB.size
 have hm2l := m2.lt
 have hm4l := m4.lt
 have h1y9 := hc9.one
 refine wp_rs fun _ K4 => F.vl (x_lss (b := decide (i < cs.length)) (decide_eq_decide.2 (by omega)) rfl rfl) fun a F => ?_
 refine s_end (K4 _ _ ?_)
 refine wp_seq_k fun _ K5 => ?_
 refine wp_iff F rfl (fun hc10 => ?_) (fun hc10 => ?_)
 ·
  obtain ⟨b9, off9, c8, y, p, hve, hp, hry, hAb, hbl, hrow⟩ := hV.row (i := i) (by omega)
  cases hve
  have htk : (cs.take (i + 1)).map CT.ess = (cs.take i).map CT.ess ++ [p.ess] := by rw [take_snoc hp, List.map_append]; rfl
  refine wp_skip (K5 _ _ ?_)
  refine wp_seq_k fun _ K6 => ?_
  refine wp_block ?_
  refine wp_rs fun _ K7 => F.vl (x_ixa rfl rfl (m_ixsK i Try.underlying25 el25.size rfl (by omega))) fun a F => F.vl (x_ldA wide27 (hrow _ (hB.block _ hbl)) rfl rfl) fun a F => ?_
  refine s_alloc F (by decide) zero27 fun w6 b6 a eb6 m6 B7 zb6 F => ?_
  have sB7 := B7.size
  have hB := bt hB B7
  have m2 := m2.old B7
  have m4 := m4.old B7
  have hc9 := hc9.below B7
  refine s_putW F rfl rfl (size_wide wide27) m6 rfl hry.one fun w10 m6 o11 => ?_
  have so11 := o11.size
  have hB := hB.trans (o11.below (by omega))
  have m2 := m2.only o11 (by omega)
  have m4 := m4.only o11 (by omega)
  have hc9 := hc9.only o11 (by intro h; first | exact h.1.2.1 rfl | exact h.1.2.2 rfl | (have := h.2; omega))
  refine s_end (K7 _ _ ?_)
  refine wp_region_lit ?_
  refine F.vl (x_ldW wide27 m2 rfl rfl) fun a F => F.vl (x_ldW wide27 m6 rfl rfl) fun a F => ?_
  refine s_callR (R := fun u w' => ∃ y, u = tv y ∧ RE w' (AS (fun k => ((A k ∨ w0.heap.size ≤ k) ∧ k ≠ b2 ∧ k ≠ b4) ∧ k < w10.heap.size) w10.heap.size) (.two 6 c9.ess p.ess) y) [_, _] F E90 rfl (by decide) (App47 (fun k => ((A k ∨ w0.heap.size ≤ k) ∧ k ≠ b2 ∧ k ≠ b4) ∧ k < w10.heap.size) c9 p y9 y w10 (fun k hk => hk.2) (hc9.valid.mono (fun k hk => ⟨hk.1.1, hk.2⟩)) ((hry.keep hB.size (fun k hk _ => hB.block k (hA k hk))).mono (fun k hk => by have := hA k hk; exact ⟨⟨.inl hk, by omega, by omega⟩, by omega⟩))) ?_
  rintro _ w12 a ⟨yq, rfl, hq⟩ B13 F
  have sB13 := B13.size
  have hB := bt hB B13
  have m2 := m2.old B13
  have m4 := m4.old B13
  have hc9 := hc9.below B13
  obtain ⟨cq, hcq0, heq⟩ := hq
  have hcq : RC w12 (fun k => ((A k ∨ w0.heap.size ≤ k) ∧ k ≠ b2 ∧ k ≠ b4) ∧ k < w12.heap.size) cq yq := hcq0.valid.mono (fun k hk => by rcases hk with ⟨hk | hk, hk2⟩; (· exact ⟨hk.1, hk2⟩); exact ⟨⟨.inr (by omega), by omega, by omega⟩, hk2⟩)
  clear hcq0 hc9
  refine s_putW F rfl rfl (size_wide wide27) m2 rfl hcq.one fun w16 m2 o17 => ?_
  have so17 := o17.size
  have hB := hB.trans (o17.below (by omega))
  have m4 := m4.only o17 (by omega)
  have hcq := hcq.only o17 (by intro h; first | exact h.1.2.1 rfl | exact h.1.2.2 rfl | (have := h.2; omega))
  refine s_end (K6 _ _ ?_)
  refine wp_region_lit ?_
  refine F.vl (x_addn (i + 1) (by omega) (by omega) rfl rfl) fun a F => F.mv rfl fun a F => ?_
  refine s_end (hK' _ _ (by omega) ⟨cq, yq, by rw [htk, apps_snoc, ← he9, heq], hcq.valid.mono (fun k hk => ⟨hk.1.1, hk.2⟩), m2, m4, hB, F.sub _ rfl⟩)
 ·
  obtain rfl : i = cs.length := by omega
  rw [List.take_length] at he9
  refine wp_exit (K2 _ _ ?_)
  refine wp_rs fun _ K8 => F.vl (x_ldW wide27 m2 rfl rfl) fun a F => ?_
  refine s_putW F rfl rfl (size_wide wide27) m4 rfl h1y9 fun w20 m4 o21 => ?_
  have so21 := o21.size
  have hB := hB.trans (o21.below (by omega))
  have hc9 := hc9.only o21 (by intro h; first | exact h.1.2.1 rfl | exact h.1.2.2 rfl | (have := h.2; omega))
  refine s_end (K8 _ _ ?_)
  refine wp_ret (res_cell F rfl rfl m4 wide27 ⟨_, rfl, ⟨y9, rfl, c9, hc9.mono (fun k hk => hk.1.1), he9⟩, hB⟩)
theorem apps_mem {f : PT} {xs : List PT} (h : (PT.apps f xs).ok) : f.ok ∧ ∀ p ∈ xs, p.ok := by
 induction xs generalizing f with
 | nil => exact ⟨h, fun p hp => by cases hp⟩
 | cons a xs ih =>
  obtain ⟨h1, h2⟩ := ih (f := .two 6 f a) h
  have h3 : f.ok ∧ a.ok := by
   unfold PT.ok at h1 ⊢
   simp only [PT.size, PT.dep] at h1
   omega
  exact ⟨h3.1, fun p hp => by rcases List.mem_cons.1 hp with rfl | hp; exact h3.2; exact h2 p hp⟩
theorem rApps25 (A : Nat → Prop) (c : CT) (x : C8) (cs : List CT) (v : Value) (w0 : World) (hA : ∀ k, A k → k < w0.heap.size) (hxA : RC w0 A c x) (hV : RK w0 A v cs) (hlen : cs.length ≤ 1000000) : Calls Try.prog 19 #[tv x, v] w0 fun e w' => ∃ u, e = .returned u ∧ (∃ y, u = tv y ∧ RE w' (AS A w0.heap.size) (PT.appsR c.ess (cs.map CT.ess)) y) ∧ Below w0.heap.size w0 w' := by
 have hx := hxA.mono hA
 obtain ⟨av, cv, hve, _⟩ := hV.form
 subst hve
 have hB := Below.refl w0.heap.size w0
 have sB := hB.size
 refine calls_fs 38 [(0, tv x), (1, .slice av cs.length cv)] Try.func19 rfl rfl rfl rfl rfl fun a F => ?_
 refine wp_rs fun _ K1 => ?_
 refine s_box (tc x) F (by decide) rfl rfl fun w2 b2 a eb2 m2 B3 zb2 F => ?_
 have sB3 := B3.size
 have hB := bt hB B3
 refine s_alloc F (by decide) zero27 fun w4 b4 a eb4 m4 B5 zb4 F => ?_
 have sB5 := B5.size
 have hB := bt hB B5
 have m2 := m2.old B5
 refine s_end (K1 _ _ ?_)
 rcases (show ¬ c.ok ∨ c.ok by by_cases h : c.ok <;> simp [h]) with hk1 | hk1
 ·
  have hres : PT.appsR c.ess (cs.map CT.ess) = .odd 0 := if_neg (fun h => hk1 (c.ok_ess.1 (apps_mem h).1))
  refine wp_rs fun _ K3 => F.vl (x_ldW wide27 m2 rfl rfl) fun a F => ?_
  refine s_callB [_] F E20 rfl (by decide) ((Size26 c x w4 (hx.bel hB)).mono fun e w' h => ⟨by rw [h.1, (show (c.mN : Int) = 0 from by rw [show c.mN = 0 from if_neg hk1]; rfl)], h.2⟩) fun w6 a B7 F => ?_
  have sB7 := B7.size
  have hB := bt hB B7
  have m4 := m4.old B7
  refine F.sg rfl fun a F => ?_
  refine s_end (K3 _ _ ?_)
  refine wp_seq_k fun _ K4 => ?_
  refine wp_rs fun _ K5 => F.mv rfl fun a F => F.vl (eqlT (by omega) rfl rfl) fun a F => ?_
  refine s_end (K5 _ _ ?_)
  refine wp_if F rfl ?_
  refine wp_rs fun _ K6 => F.vl (x_build (vs := []) rfl (b27_ _)) fun a F => ?_
  refine s_putW F rfl rfl (size_wide wide27) m4 rfl one8 fun w10 m4 o11 => ?_
  have so11 := o11.size
  have hB := hB.trans (o11.below (by omega))
  refine s_end (K6 _ _ ?_)
  refine wp_ret (then_ret (res_cell F rfl rfl m4 wide27 ⟨_, rfl, ⟨⟨0, 0, emptyB, (0, 0, nilS), nilS, nilS⟩, rfl, by rw [hres]; exact RE_bare _ _⟩, hB⟩))
 ·
  have hcs := c.size_pos
  refine wp_rs fun _ K7 => F.vl (x_ldW wide27 m2 rfl rfl) fun a F => ?_
  refine s_callB [_] F E20 rfl (by decide) ((Size26 c x w4 (hx.bel hB)).mono fun e w' h => ⟨by rw [h.1, (show (c.mN : Int) = c.size from by rw [show c.mN = c.size from if_pos hk1])], h.2⟩) fun w12 a B13 F => ?_
  have sB13 := B13.size
  have hB := bt hB B13
  have m2 := m2.old B13
  have m4 := m4.old B13
  refine F.sg rfl fun a F => ?_
  refine s_end (K7 _ _ ?_)
  refine wp_seq_k fun _ K8 => ?_
  refine wp_rs fun _ K9 => F.mv rfl fun a F => F.vl (eqlF (by omega) rfl rfl) fun a F => ?_
  refine s_end (K9 _ _ ?_)
  refine wp_if F rfl ?_
  refine wp_skip (K8 _ _ ?_)
  refine wp_seq_k fun _ K10 => ?_
  refine wp_rs fun _ K11 => F.mv rfl fun a F => F.vl (x_len Try.underlying25 rfl) fun a F => F.mv rfl fun a F => ?_
  refine s_end (K11 _ _ ?_)
  refine wp_block ?_
  refine wp_up cs.length (fun i a w => ((∀ p ∈ cs.take i, p.ok) ∧ (PT.apps c.ess ((cs.take i).map CT.ess)).size ≤ 20000) ∧ Blk w b2 27 (tc x) ∧ Blk w b4 27 z8 ∧ Below w0.heap.size w0 w ∧ Fs 38 a [(1, .slice av cs.length cv), (2, .pointer (some ⟨b2, 0, none⟩)), (4, .pointer (some ⟨b4, 0, none⟩)), (5, .int .i64 (((PT.apps c.ess ((cs.take i).map CT.ess)).size : Nat) : Int)), (14, .slice av cs.length cv), (15, .int .i64 (cs.length : Int)), (16, .int .i64 (i : Int))]) ⟨⟨fun p hp => by simp at hp, by have := hk1.1; rw [show ((cs.take 0).map CT.ess) = [] from rfl]; show c.ess.size ≤ 20000; rw [c.ess_size]; exact this⟩, m2, m4, hB, F.sub _ (by rw [show (PT.apps c.ess ((cs.take 0).map CT.ess)).size = c.size from c.ess_size]; rfl)⟩ ?_
  have hbb : w0.heap.size ≤ b2 ∧ b2 < b4 := ⟨by omega, by omega⟩
  repeat clear F
  clear hB m2 m4
  rintro i a w hi ⟨⟨hoks, hsz⟩, m2, m4, hB, F⟩ K' hK'
  have sB := hB.size
  have hm2l := m2.lt
  have hm4l := m4.lt
  obtain ⟨S, hS9⟩ : ∃ S, S = (PT.apps c.ess ((cs.take i).map CT.ess)).size := ⟨_, rfl⟩
  rw [← hS9] at F hsz
  refine wp_rs fun _ K12 => F.vl (x_lss (b := decide (i < cs.length)) (decide_eq_decide.2 (by omega)) rfl rfl) fun a F => ?_
  refine s_end (K12 _ _ ?_)
  refine wp_seq_k fun _ K13 => ?_
  refine wp_iff F rfl (fun hc17 => ?_) (fun hc17 => ?_)
  ·
   obtain ⟨b9, off9, c8, y, p, hve, hp, hry, hAb, hbl, hrow⟩ := hV.row (i := i) (by omega)
   cases hve
   have htk : (cs.take (i + 1)).map CT.ess = (cs.take i).map CT.ess ++ [p.ess] := by rw [take_snoc hp, List.map_append]; rfl
   have hpm := List.mem_of_getElem? hp
   have hS2 : (PT.apps c.ess ((cs.take (i + 1)).map CT.ess)).size = S + p.size + 1 := by rw [htk, apps_snoc]; simp only [PT.size]; rw [← hS9, p.ess_size]
   have hpp := p.size_pos
   refine wp_skip (K13 _ _ ?_)
   refine wp_seq_k fun _ K14 => ?_
   refine wp_block ?_
   refine wp_rs fun _ K15 => F.vl (x_ixa rfl rfl (m_ixsK i Try.underlying25 el25.size rfl (by omega))) fun a F => F.vl (x_ldA wide27 (hrow _ (hB.block _ hbl)) rfl rfl) fun a F => ?_
   refine s_alloc F (by decide) zero27 fun w14 b7 a eb7 m7 B15 zb7 F => ?_
   have sB15 := B15.size
   have hB := bt hB B15
   have m2 := m2.old B15
   have m4 := m4.old B15
   refine s_putW F rfl rfl (size_wide wide27) m7 rfl hry.one fun w18 m7 o19 => ?_
   have so19 := o19.size
   have hB := hB.trans (o19.below (by omega))
   have m2 := m2.only o19 (by omega)
   have m4 := m4.only o19 (by omega)
   refine s_end (K15 _ _ ?_)
   rcases (show ¬ p.ok ∨ (p.ok ∧ 20000 < S + p.size + 1) ∨ (p.ok ∧ S + p.size + 1 ≤ 20000) by by_cases h : p.ok; (· simp only [h, not_true, false_or, true_and]; omega); exact .inl h) with hk2 | ⟨hk2, hk3⟩ | ⟨hk2, hk3⟩
   ·
    have hkp : ¬ p.ok ∨ 20000 < S + p.size + 1 := .inl hk2
    have hno : PT.appsR c.ess (cs.map CT.ess) = .odd 0 := if_neg (fun h => by have h2 := apps_mem h; have h3 := apps_take (i := i + 1) h; rw [← List.map_take] at h3; have h4 := h3.1; rw [hS2] at h4; rcases hkp with hkp | hkp; (· exact hkp (p.ok_ess.1 (h2.2 p.ess (List.mem_map_of_mem hpm)))); omega)
    have hmn : p.mN = 0 := if_neg hk2
    have hmb : p.mN ≤ 20000 := by omega
    have hmp : (p.mN : Int) = (p.mN : Int) := rfl
    refine wp_rs fun _ K17 => F.vl (x_ldW wide27 m7 rfl rfl) fun a F => ?_
    refine s_callB [_] F E20 rfl (by decide) ((Size26 p y w18 ((hry.mono hA).bel hB)).mono fun e w' h => ⟨by rw [h.1, hmp], h.2⟩) fun w20 a B21 F => ?_
    have sB21 := B21.size
    have hB := bt hB B21
    have m4 := m4.old B21
    refine F.sg rfl fun a F => ?_
    refine s_end (K17 _ _ ?_)
    refine wp_rs fun _ K18 => F.mv rfl fun a F => F.mv rfl fun a F => F.vl (x_addn (p.mN + 1) (by omega) (by have := hmb; omega) rfl rfl) fun a F => F.vl (x_addn (S + (p.mN + 1)) (by omega) (by have := hmb; omega) rfl rfl) fun a F => F.sg rfl fun a F => ?_
    refine s_end (K18 _ _ ?_)
    refine wp_rs fun _ K19 => F.mv rfl fun a F => F.vl (eqlT (by omega) rfl rfl) fun a F => F.mv rfl fun a F => s_grdn 28 F rfl rfl (by decide) fun a F => s_grdn 28 F rfl rfl (by decide) fun a F => F.vl (x_pick (b := true) rfl rfl) fun a F => ?_
    refine s_end (K19 _ _ ?_)
    refine wp_if F rfl ?_
    refine wp_rs fun _ K20 => F.vl (x_build (vs := []) rfl (b27_ _)) fun a F => ?_
    refine s_putW F rfl rfl (size_wide wide27) m4 rfl one8 fun w24 m4 o25 => ?_
    have so25 := o25.size
    have hB := hB.trans (o25.below (by omega))
    refine s_end (K20 _ _ ?_)
    refine wp_ret (inb_ret (then_ret (then_ret (inb_ret (then_ret (res_cell F rfl rfl m4 wide27 ⟨_, rfl, ⟨⟨0, 0, emptyB, (0, 0, nilS), nilS, nilS⟩, rfl, by rw [hno]; exact RE_bare _ _⟩, hB⟩))))))
   ·
    have hkp : ¬ p.ok ∨ 20000 < S + p.size + 1 := .inr hk3
    have hno : PT.appsR c.ess (cs.map CT.ess) = .odd 0 := if_neg (fun h => by have h2 := apps_mem h; have h3 := apps_take (i := i + 1) h; rw [← List.map_take] at h3; have h4 := h3.1; rw [hS2] at h4; rcases hkp with hkp | hkp; (· exact hkp (p.ok_ess.1 (h2.2 p.ess (List.mem_map_of_mem hpm)))); omega)
    have hmn : p.mN = p.size := if_pos hk2
    have hmb : p.mN ≤ 20000 := by have := hk2.1; omega
    have hmp : (p.mN : Int) = (p.mN : Int) := rfl
    refine wp_rs fun _ K21 => F.vl (x_ldW wide27 m7 rfl rfl) fun a F => ?_
    refine s_callB [_] F E20 rfl (by decide) ((Size26 p y w18 ((hry.mono hA).bel hB)).mono fun e w' h => ⟨by rw [h.1, hmp], h.2⟩) fun w26 a B27 F => ?_
    have sB27 := B27.size
    have hB := bt hB B27
    have m4 := m4.old B27
    refine F.sg rfl fun a F => ?_
    refine s_end (K21 _ _ ?_)
    refine wp_rs fun _ K22 => F.mv rfl fun a F => F.mv rfl fun a F => F.vl (x_addn (p.mN + 1) (by omega) (by have := hmb; omega) rfl rfl) fun a F => F.vl (x_addn (S + (p.mN + 1)) (by omega) (by have := hmb; omega) rfl rfl) fun a F => F.sg rfl fun a F => ?_
    refine s_end (K22 _ _ ?_)
    refine wp_rs fun _ K23 => F.mv rfl fun a F => F.vl (eqlF (by omega) rfl rfl) fun a F => F.mv rfl fun a F => s_grd 28 F rfl rfl rfl <| F.mv rfl fun a F => s_grd 28 F rfl rfl rfl <| F.vl (gtrT (by omega) rfl rfl) fun a F => F.vl (x_pick (b := false) rfl rfl) fun a F => ?_
    refine s_end (K23 _ _ ?_)
    refine wp_if F rfl ?_
    refine wp_rs fun _ K24 => F.vl (x_build (vs := []) rfl (b27_ _)) fun a F => ?_
    refine s_putW F rfl rfl (size_wide wide27) m4 rfl one8 fun w30 m4 o31 => ?_
    have so31 := o31.size
    have hB := hB.trans (o31.below (by omega))
    refine s_end (K24 _ _ ?_)
    refine wp_ret (inb_ret (then_ret (then_ret (inb_ret (then_ret (res_cell F rfl rfl m4 wide27 ⟨_, rfl, ⟨⟨0, 0, emptyB, (0, 0, nilS), nilS, nilS⟩, rfl, by rw [hno]; exact RE_bare _ _⟩, hB⟩))))))
   ·
    have hmn : p.mN = p.size := if_pos hk2
    have hmb : p.mN ≤ 20000 := by have := hk2.1; omega
    have hmp : (p.mN : Int) = (p.mN : Int) := rfl
    refine wp_rs fun _ K25 => F.vl (x_ldW wide27 m7 rfl rfl) fun a F => ?_
    refine s_callB [_] F E20 rfl (by decide) ((Size26 p y w18 ((hry.mono hA).bel hB)).mono fun e w' h => ⟨by rw [h.1, hmp], h.2⟩) fun w32 a B33 F => ?_
    have sB33 := B33.size
    have hB := bt hB B33
    have m2 := m2.old B33
    have m4 := m4.old B33
    refine F.sg rfl fun a F => ?_
    refine s_end (K25 _ _ ?_)
    refine wp_rs fun _ K26 => F.mv rfl fun a F => F.mv rfl fun a F => F.vl (x_addn (p.mN + 1) (by omega) (by have := hmb; omega) rfl rfl) fun a F => F.vl (x_addn (S + (p.mN + 1)) (by omega) (by have := hmb; omega) rfl rfl) fun a F => F.sg rfl fun a F => ?_
    refine s_end (K26 _ _ ?_)
    refine wp_rs fun _ K27 => F.mv rfl fun a F => F.vl (eqlF (by omega) rfl rfl) fun a F => F.mv rfl fun a F => s_grd 28 F rfl rfl rfl <| F.mv rfl fun a F => s_grd 28 F rfl rfl rfl <| F.vl (gtrF (by omega) rfl rfl) fun a F => F.vl (x_pick (b := false) rfl rfl) fun a F => ?_
    refine s_end (K27 _ _ ?_)
    refine wp_if F rfl ?_
    refine wp_skip (K14 _ _ ?_)
    refine wp_region_lit ?_
    refine F.vl (x_addn (i + 1) (by omega) (by omega) rfl rfl) fun a F => F.mv rfl fun a F => ?_
    refine s_end (hK' _ _ (by omega) ⟨⟨fun q hq => by rw [take_snoc hp] at hq; rcases List.mem_append.1 hq with hq | hq; exact hoks q hq; simp at hq; subst hq; exact hk2, by omega⟩, m2, m4, hB, F.sub _ (by rw [hS2, show S + p.size + 1 = S + (p.mN + 1) by omega]; rfl)⟩)
  ·
   refine wp_exit (K10 _ _ ?_)
   refine wp_rs fun _ K28 => F.vl (x_ldW wide27 m2 rfl rfl) fun a F => F.mv rfl fun a F => ?_
   refine s_callR (R := fun u w' => ∃ y, u = tv y ∧ RE w' (AS A w.heap.size) (PT.apps c.ess (cs.map CT.ess)) y) [_, _] F E49 rfl (by decide) (rRaw65 A c x cs _ w (fun k hk => by have := hA k hk; omega) (hxA.keep hB.size (fun k hk _ => hB.block k (hA k hk))) (RK.keep hB.size (fun k hk _ => hB.block k (hA k hk)) hV) hlen) ?_
   rintro _ w34 a ⟨yr, rfl, hyr⟩ B35 F
   have sB35 := B35.size
   have hB := bt hB B35
   have m4 := m4.old B35
   obtain ⟨cr, hcr0, her⟩ := hyr
   have hcr : RC w34 (fun k => k < w34.heap.size) cr yr := hcr0.valid.mono (fun k hk => hk.2)
   refine s_callB [_] F E48 rfl (by decide) (rfits64 cr yr w34 hcr) fun w36 a B37 F => ?_
   have sB37 := B37.size
   have hB := bt hB B37
   have m4 := m4.old B37
   have hfit : RE w36 (AS A w.heap.size) (PT.appsR c.ess (cs.map CT.ess)) (fitC cr yr) := by
    by_cases hk3 : cr.ok
    ·
     rw [show fitC cr yr = yr from if_pos hk3, show PT.appsR c.ess (cs.map CT.ess) = cr.ess from by rw [her]; exact if_pos (by rw [← her]; exact cr.ok_ess.2 hk3)]; exact ⟨cr, (hcr0.valid.keep B37.size (fun k hk hl => B37.block k hl)).mono (fun k hk => hk.1), rfl⟩
    ·
     rw [show fitC cr yr = Z0 from if_neg hk3, show PT.appsR c.ess (cs.map CT.ess) = .odd 0 from if_neg (by rw [← her]; exact fun h => hk3 (cr.ok_ess.1 h))]; exact RE_bare _ _
   refine s_putW F rfl rfl (size_wide wide27) m4 rfl hfit.one fun w40 m4 o41 => ?_
   have so41 := o41.size
   have hB := hB.trans (o41.below (by omega))
   have hfit := hfit.only o41 (by intro h; rcases h with h | h; (have := hA _ h; omega); omega)
   refine s_end (K28 _ _ ?_)
   refine wp_ret (res_cell F rfl rfl m4 wide27 ⟨_, rfl, ⟨fitC cr yr, rfl, hfit.mono (AS.mono (by omega))⟩, hB⟩)
end Go.Proofs.Ytmkjhdiepkpdoaa
