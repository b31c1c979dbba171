/- The reference's Spine. -/
import Derived.Test.YtmkjhdiepkpdoaaTerm44
import Derived.Test.YtmkjhdiepkpdoaaSymL
import Derived.Test.YtmkjhdiepkpdoaaLevD
import Derived.ProofKit
import Derived.Deep.Slices
import Derived.ChangeSame
import Derived.ChangeArms
import Derived.SizedLaws
import Derived.Deep.Strs
namespace Go.Proofs.Ytmkjhdiepkpdoaa
set_option maxRecDepth 100000
set_option maxHeartbeats 1600000
open Go.RowKit Go.Shelf
set_option linter.unusedVariables false
set_option linter.unusedSimpArgs false
theorem sp_leaf {W : World} {A : Nat → Prop} {c : CT} {x : C8} (hx : RC W A c x) (h6 : c.kd = 6) : (arT c.kd < 0 ∨ (c.len : Int) < arT c.kd) ↔ ¬ 0 < c.kids.length := by
 cases c with
 | two k a b m =>
  have h6 : k = 6 := h6
  subst h6
  simp only [CT.kd, CT.len, CT.kids, show arT 6 = 2 from rfl, List.length_cons, List.length_nil]
  omega
 | odd k m =>
  have h := hx.2.1
  simp only [CT.kids, List.length_nil, Nat.lt_irrefl, not_false_eq_true, iff_true]
  exact h
 | var n m => simp [CT.kd] at h6
 | sort n m => simp [CT.kd] at h6
 | cst s n m => simp [CT.kd] at h6
 | lt a b c m => simp [CT.kd] at h6
theorem RK.cons {W W' : World} {A : Nat → Prop} {v v' : Value} {c : CT} {x : C8} {cs : List CT} {xs : List C8} (hx : RC W' A c x) (hR : Rd W' v' 8 (xs.length + 1) (tc x ++ xs.flatMap tc)) (hb : ∀ b, v'.ownBlock = some b → A b) (hl : xs.length = cs.length) (h : ∀ (i : Nat) x c, xs[i]? = some x → cs[i]? = some c → RC W' A c x) : RK W' A v' (c :: cs) :=
 ⟨x :: xs, ⟨by simpa using hR, fun _ b h => hb b h⟩, by simp [hl], fun i y d e1 e2 => by
  cases i with
  | zero => simp at e1 e2; subst e1 e2; exact hx
  | succ i => exact h i y d (by simpa using e1) (by simpa using e2)⟩
theorem rSpine28 (A : Nat → Prop) (c : CT) (x : C8) (w0 : World) (hA : ∀ k, A k → k < w0.heap.size) (hxA : RC w0 A c x) (hok : c.ok) : Calls Try.prog 22 #[tv x] w0 fun e w' => ∃ u, e = .returned u ∧ (∃ y v, u = .tuple #[tv y, v] ∧ RC w' (AS A w0.heap.size) c.spH y ∧ RK w' (AS A w0.heap.size) v c.spA.reverse) ∧ Below w0.heap.size w0 w' := by
 have hx := hxA.mono hA
 have hsl := CT.spA_len c
 have hsz : c.spL.length ≤ 20000 := Nat.le_trans (CT.spL_size c) hok.1
 have hB := Below.refl w0.heap.size w0
 have sB := hB.size
 refine calls_fs 29 [(0, tv x)] Try.func22 rfl rfl rfl rfl rfl fun a F => ?_
 refine wp_rs fun _ K1 => ?_
 refine s_box (tc x) F (by decide) rfl rfl fun w2 b1 a eb1 m1 B3 zb1 F => ?_
 have sB3 := B3.size
 have hB := bt hB B3
 refine s_alloc F (by decide) zero27 fun w4 b2 a eb2 m2 B5 zb2 F => ?_
 have sB5 := B5.size
 have hB := bt hB B5
 have m1 := m1.old B5
 refine F.sg rfl fun a F => ?_
 refine s_end (K1 _ _ ?_)
 refine wp_seq_k fun _ K2 => ?_
 refine wp_rs fun _ K3 => F.vl (x_ldW wide27 m1 rfl rfl) fun a F => ?_
 refine s_callB [_] F E8 rfl (by decide) ((TooGreat14 c x w4 (hx.bel hB)).mono fun e w' h => ⟨by rw [h.1, decide_eq_false (fun h => h hok)], h.2⟩) fun w6 a B7 F => ?_
 have sB7 := B7.size
 have hB := bt hB B7
 have m1 := m1.old B7
 have m2 := m2.old B7
 refine s_end (K3 _ _ ?_)
 refine wp_if F rfl ?_
 refine wp_skip (K2 _ _ ?_)
 refine wp_rs fun _ K4 => F.sg rfl fun a F => ?_
 refine s_end (K4 _ _ ?_)
 refine wp_seq_k fun _ K5 => ?_
 refine wp_block ?_
 refine wp_up (c.spL.length - 1) (fun i a w => ∃ ci yi vv xs, c.spL[i]? = some ci ∧ RC w0 A ci yi ∧ Blk w b1 27 (tc yi) ∧ Blk w b2 27 z8 ∧ Rd w vv 8 xs.length (xs.flatMap tc) ∧ (∀ b, vv.ownBlock = some b → b2 < b ∧ b < w.heap.size) ∧ xs.length = (c.spA.take i).reverse.length ∧ (∀ (j : Nat) x d, xs[j]? = some x → (c.spA.take i).reverse[j]? = some d → RC w0 A d x) ∧ Below w0.heap.size w0 w ∧ Fs 29 a [(1, .pointer (some ⟨b1, 0, none⟩)), (2, .pointer (some ⟨b2, 0, none⟩)), (4, vv)]) ⟨c, x, nilS, [], c.spL_zero, hxA, m1, m2, Rd.nil _ _, (fun b h => by cases h), rfl, (fun j x d h => by simp at h), hB, F.sub _ rfl⟩ ?_
 have hbb : w0.heap.size ≤ b1 ∧ b1 < b2 := ⟨by omega, by omega⟩
 repeat clear F
 clear hB m1 m2
 rintro i a w hi ⟨ci, yi, vv, xs, hci, hri, m1, m2, hR, hRb, hxl, hxs, hB, F⟩ K' hK'
 have sB := hB.size
 have hm1l := m1.lt
 have hm2l := m2.lt
 have h1y := hri.one
 have hil := (List.getElem?_eq_some_iff.1 hci).1
 have hxi : xs.length = i := by rw [hxl, List.length_reverse, List.length_take]; omega
 have hk1 : yi.k = ci.kd := hri.kd
 refine wp_seq_k fun _ K6 => ?_
 rcases (show (ci.kd = 6 ∧ 0 < ci.kids.length) ∨ ((¬ (ci.kd = 6 ∧ 0 < ci.kids.length)) ∧ ci.kd = 6) ∨ ((¬ (ci.kd = 6 ∧ 0 < ci.kids.length)) ∧ ci.kd ≠ 6) by omega) with hap | ⟨hap, h6⟩ | ⟨hap, h6⟩
 ·
  obtain ⟨k1, hkk1, hsp1⟩ := CT.spA_get c ci i hci hap
  obtain ⟨k0, hkk0, hnx⟩ := (CT.spL_next c ci i hci).1 hap
  have hlf := fun h => (sp_leaf hri hap.1).1 h hap.2
  obtain ⟨av, nv, cv, hts, hle9, hlen9, hcap, hkid⟩ := hri.kids
  obtain ⟨xk, xn, xs9, xl, xls, xts⟩ := yi
  simp only at hts
  subst hts
  have hk1l : 1 < ci.kids.length := (List.getElem?_eq_some_iff.1 hkk1).1
  obtain ⟨b9, off9, c9, y9, p9, hve, hyk, hry, hAb, hbl, hrow⟩ := hkid.row (i := 1) hk1l
  cases hve
  obtain rfl : p9 = k1 := by rw [hkk1] at hyk; exact (Option.some.inj hyk).symm
  obtain ⟨b8, off8, c8, y8, p8, hve, hyk8, hry8, hAb8, hbl8, hrow8⟩ := hkid.row (i := 0) (by omega)
  cases hve
  obtain rfl : p8 = k0 := by rw [hkk0] at hyk8; exact (Option.some.inj hyk8).symm
  have hin : i + 1 < c.spL.length := (List.getElem?_eq_some_iff.1 hnx).1
  have hk1 : xk = 6 := hk1.trans hap.1
  have htr : (c.spA.take (i + 1)).reverse = p9 :: (c.spA.take i).reverse := by rw [take_snoc hsp1, List.reverse_append]; rfl
  obtain ⟨avv, cvv, hvv, _⟩ := hR.form
  subst hvv
  refine wp_rs fun _ K8 => F.vl (x_fa0 fa27_0 rfl) fun a F => F.ld m1 flat3 rfl rfl fun a F => F.vl (eqlT (by omega) rfl rfl) fun a F => F.mv rfl fun a F => s_grd 11 F rfl rfl rfl <| F.vl (x_ldW wide27 m1 rfl rfl) fun a F => s_grd 11 F rfl rfl rfl ?_
  refine s_callB [_] F E54 rfl (by decide) ((leaf70 ci _ A w0 w hri).mono fun e w' h => ⟨by rw [h.1, decide_eq_false hlf], h.2⟩) fun w8 a B9 F => ?_
  have sB9 := B9.size
  have hB := bt hB B9
  have m1 := m1.old B9
  have m2 := m2.old B9
  have hR := hR.below B9
  refine s_grd 11 F rfl rfl rfl <| F.vl (x_not rfl) fun a F => F.vl (x_pick (b := true) rfl rfl) fun a F => ?_
  refine s_end (K8 _ _ ?_)
  refine wp_if F rfl ?_
  refine wp_skip (K6 _ _ ?_)
  refine wp_block ?_
  refine wp_rs fun _ K9 => F.vl (x_fa0 fa27_5 rfl) fun a F => F.ld m1 flat25 rfl rfl fun a F => F.vl (x_ixa rfl rfl (m_ixsK 1 Try.underlying25 el25.size rfl (by omega))) fun a F => F.vl (x_ldA wide27 (hrow _ (hB.block _ hbl)) rfl rfl) fun a F => ?_
  refine s_litG [tv y9] el25 F (by decide) rfl (by simp [Value.cells, tc]) rfl (by decide) (by decide) fun w10 bl a ebl ml B11 zbl F => ?_
  have sB11 := B11.size
  have hB := bt hB B11
  have m1 := m1.old B11
  have m2 := m2.old B11
  have hR := hR.below B11
  have ml : Blk w10 bl 27 (tc y9) := by simpa [Value.cells] using ml
  refine F.mv rfl fun a F => ?_
  have hOl : w10.ownsRow (b2 + 1) 27 8 (.slice (some ⟨bl, 0, none⟩) 1 1) 1 (tc y9) := own_of (by omega) ml (Nat.le_refl _) (by simp only [maxLen]; omega) (by rw [tc_len]) (List.take_of_length_le (by rw [tc_len]; decide))
  have h1xs : ∀ u ∈ xs.flatMap tc, u.oneCell' = true := fun u hu => by obtain ⟨z, hz, hu⟩ := List.mem_flatMap.1 hu; obtain ⟨j, hj, he⟩ := List.getElem_of_mem hz; exact (hxs j z _ (by rw [← he]; exact List.getElem?_eq_getElem hj) (List.getElem?_eq_getElem (by rw [← hxl]; exact hj))).one u hu
  refine s_appG el25 F (by decide) rfl rfl hOl hR h1xs (by omega) (by simp only [maxLen]; omega) (by omega) fun v22 w12 a hO22 hg22 hs22 F => ?_
  have B22 : Below bl w10 w12 := grown_below hg22 (by have := ml.lt; omega) (fun k hk => by simp [Value.ownBlock] at hk; omega)
  have sB22 := B22.size
  have hB := hB.trans (B22.mono (by omega))
  have m1 := m1.below B22 (by omega)
  have m2 := m2.below B22 (by omega)
  have hR22 : Rd w12 v22 8 (xs.length + 1) (tc y9 ++ xs.flatMap tc) := by have h := Rd.own hO22; rwa [Nat.add_comm] at h
  have hb22 : ∀ b, v22.ownBlock = some b → b2 < b ∧ b < w12.heap.size := fun b h => by have := hO22.lt b h; omega
  refine F.sg rfl fun a F => ?_
  refine s_end (K9 _ _ ?_)
  refine wp_region_lit ?_
  refine F.vl (x_fa0 fa27_5 rfl) fun a F => F.ld m1 flat25 rfl rfl fun a F => F.vl (x_ixa rfl rfl (m_ixsK 0 Try.underlying25 el25.size rfl (by omega))) fun a F => F.vl (x_ldA wide27 (hrow8 _ (hB.block _ hbl8)) rfl rfl) fun a F => ?_
  refine s_putW F rfl rfl (size_wide wide27) m1 rfl hry8.one fun w13 m1 o14 => ?_
  have so14 := o14.size
  have hB := hB.trans (o14.below (by omega))
  have m2 := m2.only o14 (by omega)
  have hR22 := rd_only hR22 o14 (fun e => by have := hb22 _ e; omega)
  have hb22 : ∀ b, v22.ownBlock = some b → b2 < b ∧ b < w13.heap.size := fun b h => by have := hb22 b h; omega
  refine s_end (hK' _ _ (by omega) ⟨p8, y8, v22, y9 :: xs, hnx, hry8, m1, m2, by simpa using hR22, hb22, by rw [htr]; simp [hxl], (fun j z d e1 e2 => by rw [htr] at e2; cases j with | zero => (simp at e1 e2; subst e1 e2; exact hry) | succ j => exact hxs j z d (by simpa using e1) (by simpa using e2)), hB, F.sub _ rfl⟩)
 ·
  have hlf := (sp_leaf hri h6).2 (fun h => hap ⟨h6, h⟩)
  have hlast := (CT.spL_next c ci i hci).2 hap
  have hcH : c.spH = ci := by have h := CT.spH_last c; rw [show c.spL.length - 1 = i by omega, hci] at h; exact (Option.some.inj h).symm
  have htk : c.spA.take i = c.spA := List.take_of_length_le (by omega)
  rw [htk] at hxl hxs
  refine wp_rs fun _ K10 => F.vl (x_fa0 fa27_0 rfl) fun a F => F.ld m1 flat3 rfl rfl fun a F => F.vl (eqlT (by omega) rfl rfl) fun a F => F.mv rfl fun a F => s_grd 11 F rfl rfl rfl <| F.vl (x_ldW wide27 m1 rfl rfl) fun a F => s_grd 11 F rfl rfl rfl ?_
  refine s_callB [_] F E54 rfl (by decide) ((leaf70 ci _ A w0 w hri).mono fun e w' h => ⟨by rw [h.1, decide_eq_true hlf], h.2⟩) fun w15 a B16 F => ?_
  have sB16 := B16.size
  have hB := bt hB B16
  have m1 := m1.old B16
  have m2 := m2.old B16
  have hR := hR.below B16
  refine s_grd 11 F rfl rfl rfl <| F.vl (x_not rfl) fun a F => F.vl (x_pick (b := true) rfl rfl) fun a F => ?_
  refine s_end (K10 _ _ ?_)
  refine wp_if F rfl ?_
  refine wp_exit (K5 _ _ ?_)
  refine wp_rs fun _ K11 => F.vl (x_ldW wide27 m1 rfl rfl) fun a F => F.mv rfl fun a F => ?_
  refine s_putW F rfl rfl (size_wide wide27) m2 rfl h1y fun w19 m2 o20 => ?_
  have so20 := o20.size
  have hB := hB.trans (o20.below (by omega))
  have hR := rd_only hR o20 (fun e => by have := hRb _ e; omega)
  refine F.sg rfl fun a F => ?_
  refine s_end (K11 _ _ ?_)
  refine wp_ret (res_tc F rfl rfl m2 wide27 rfl ⟨_, rfl, ⟨yi, vv, rfl, by rw [hcH]; exact (hri.keep hB.size (fun k hk _ => hB.block k (hA k hk))).mono (fun k hk => .inl hk), ⟨xs, ⟨hR, fun _ b h => .inr (by have := hRb b h; omega)⟩, hxl, fun j z d e1 e2 => ((hxs j z d e1 e2).keep hB.size (fun k hk _ => hB.block k (hA k hk))).mono (fun k hk => .inl hk)⟩⟩, hB⟩)
 ·
  have hlast := (CT.spL_next c ci i hci).2 hap
  have hcH : c.spH = ci := by have h := CT.spH_last c; rw [show c.spL.length - 1 = i by omega, hci] at h; exact (Option.some.inj h).symm
  have htk : c.spA.take i = c.spA := List.take_of_length_le (by omega)
  rw [htk] at hxl hxs
  refine wp_rs fun _ K12 => F.vl (x_fa0 fa27_0 rfl) fun a F => F.ld m1 flat3 rfl rfl fun a F => F.vl (eqlF (by omega) rfl rfl) fun a F => F.mv rfl fun a F => s_grdn 11 F rfl rfl (by decide) fun a F => s_grdn 11 F rfl rfl (by decide) fun a F => s_grdn 11 F rfl rfl (by decide) fun a F => F.vl (x_pick (b := false) rfl rfl) fun a F => ?_
  refine s_end (K12 _ _ ?_)
  refine wp_if F rfl ?_
  refine wp_exit (K5 _ _ ?_)
  refine wp_rs fun _ K13 => F.vl (x_ldW wide27 m1 rfl rfl) fun a F => F.mv rfl fun a F => ?_
  refine s_putW F rfl rfl (size_wide wide27) m2 rfl h1y fun w23 m2 o24 => ?_
  have so24 := o24.size
  have hB := hB.trans (o24.below (by omega))
  have hR := rd_only hR o24 (fun e => by have := hRb _ e; omega)
  refine F.sg rfl fun a F => ?_
  refine s_end (K13 _ _ ?_)
  refine wp_ret (res_tc F rfl rfl m2 wide27 rfl ⟨_, rfl, ⟨yi, vv, rfl, by rw [hcH]; exact (hri.keep hB.size (fun k hk _ => hB.block k (hA k hk))).mono (fun k hk => .inl hk), ⟨xs, ⟨hR, fun _ b h => .inr (by have := hRb b h; omega)⟩, hxl, fun j z d e1 e2 => ((hxs j z d e1 e2).keep hB.size (fun k hk _ => hB.block k (hA k hk))).mono (fun k hk => .inl hk)⟩⟩, hB⟩)
end Go.Proofs.Ytmkjhdiepkpdoaa

namespace Go.Proofs.Ytmkjhdiepkpdoaa
open Go.RowKit Go.Shelf
set_option linter.unusedVariables false
set_option linter.unusedSimpArgs false
/-- Number i has come up. -/
def Up (listed : Array Bool) (i : Nat) : Prop := listed.getD i true = true
instance (listed : Array Bool) (i : Nat) : Decidable (Up listed i) := inferInstanceAs (Decidable (_ = _))
/-- How many of the first n have not come up. -/
def leftN (listed : Array Bool) : Nat → Nat
 | 0 => 0
 | n + 1 => leftN listed n + (if listed.getD n true = false then 1 else 0)
theorem leftN_set {listed : Array Bool} {i : Nat} (hi : listed.getD i true = false) : ∀ n, (i < n → leftN (listed.setIfInBounds i true) n + 1 = leftN listed n) ∧ (n ≤ i → leftN (listed.setIfInBounds i true) n = leftN listed n)
 | 0 => ⟨fun h => by omega, fun _ => rfl⟩
 | n + 1 => by
  obtain ⟨h1, h2⟩ := leftN_set hi n
  have hl : i < listed.size := by
   rcases Nat.lt_or_ge i listed.size with h | h
   ·
    exact h
   ·
    simp [Array.getElem?_eq_none h] at hi
  by_cases hn : n = i
  ·
   subst hn
   refine ⟨fun _ => ?_, fun h => by omega⟩
   have h3 := h2 (Nat.le_refl _)
   have h4 : (listed.setIfInBounds n true).getD n true = true := by simp [hl]
   simp only [leftN, h3, h4, hi, if_true]
   simp
  ·
   have h3 : (listed.setIfInBounds i true).getD n true = listed.getD n true := getD_set_ne true (fun h => hn h.symm)
   refine ⟨fun h => ?_, fun h => ?_⟩
   ·
    have := h1 (by omega)
    simp only [leftN, h3]
    omega
   ·
    have := h2 (by omega)
    simp only [leftN, h3]
    omega
theorem leftN_zero {listed : Array Bool} : ∀ n, leftN listed n = 0 → ∀ i, i < n → listed.getD i true = true
 | 0, _, i, hi => by omega
 | n + 1, h, i, hi => by
  simp only [leftN] at h
  by_cases hn : listed.getD n true = false
  ·
   rw [if_pos hn] at h; omega
  ·
   rw [if_neg hn] at h
   by_cases e : i = n
   ·
    subst e; simpa using hn
   ·
    exact leftN_zero n (by omega) i (by omega)
section
variable {P : Program} {ops : Array Oper} {Q : Exit → Act → World → Prop} {md : Region.Mode}
end
section
variable {P : Program} {ops : Array Oper} {N : Nat} {a : Act} {w : World} {r : Option Nat} {m : Nat}
end
end Go.Proofs.Ytmkjhdiepkpdoaa

namespace Go.Proofs.Ytmkjhdiepkpdoaa
open Go.RowKit Go.Shelf
set_option linter.unusedVariables false
set_option linter.unusedSimpArgs false
theorem Up.set {listed : Array Bool} {i j : Nat} (h : Up (listed.setIfInBounds i true) j) : j = i ∨ Up listed j := by
 by_cases e : j = i
 ·
  exact .inl e
 ·
  exact .inr (by unfold Up at h ⊢; rwa [getD_set_ne true (fun h => e h.symm)] at h)
theorem Up.keep {listed : Array Bool} {i j : Nat} (h : Up listed j) : Up (listed.setIfInBounds i true) j := by
 unfold Up at h ⊢
 by_cases e : i = j
 ·
  subst e
  by_cases hl : i < listed.size
  ·
   simp [hl]
  ·
   rw [Array.getD_eq_getD_getElem?, Array.getElem?_eq_none (by simp; omega)]; rfl
 ·
  rwa [getD_set_ne true e]
theorem ov_more {l l' : List (Nat × Value)} (h : ∀ s u, lk l s = some u → lk l' s = some u) {x : Operand} {v : Value} (e : ov l x = some v) : ov l' x = some v := by
 cases x <;> first | exact h _ _ e | exact e
theorem ovs_more {l l' : List (Nat × Value)} (h : ∀ s u, lk l s = some u → lk l' s = some u) : ∀ {xs : List Operand} {vals : List Value}, xs.map (ov l) = vals.map some → xs.map (ov l') = vals.map some
 | [], [], _ => rfl
 | [], _ :: _, e => by cases e
 | _ :: _, [], e => by cases e
 | x :: xs, v :: vs, e => by
  simp only [List.map_cons, List.cons.injEq] at e ⊢
  exact ⟨ov_more h e.1, ovs_more h e.2⟩
theorem lk_cons_ne {l : List (Nat × Value)} {d t : Nat} {v : Value} (h : d ≠ t) : lk ((d, v) :: l) t = lk l t := by
 simp only [lk, show Nat.beq d t = false by cases hb : Nat.beq d t; (· rfl); exact absurd (Nat.eq_of_beq_eq_true hb) h, cond_false]
theorem lk_cons_eq {l : List (Nat × Value)} {d : Nat} {v : Value} : lk ((d, v) :: l) d = some v := by simp [lk]
/-- What has come up: blocks bs, answers vs. -/
structure BoxInv (n : Nat) (l0 : List (Nat × Value)) (dst : Nat → Nat) (al : Nat → Bool) (es : List Nat) (t : Nat) (zs : List Value) (R : Nat → Value → World → (Nat → Prop) → Prop) (w0 : World) (bs : Nat → Nat) (vs : Nat → Value) (listed : Array Bool) (a : Act) (w : World) : Prop where
 below : Below w0.heap.size w0 w
 frame : ∃ l, Fs n a l ∧ (∀ s u, lk l0 s = some u → lk l s = some u) ∧ ∀ i, i ∈ es → Up listed i → lk l (dst i) = some (if al i = true then .pointer (some ⟨bs i, 0, none⟩) else vs i)
 box : ∀ i, i ∈ es → al i = true → Up listed i → Blk w (bs i) t zs ∧ w0.heap.size ≤ bs i
 ne : ∀ i j, i ∈ es → j ∈ es → al i = true → al j = true → Up listed i → Up listed j → i ≠ j → bs i ≠ bs j
 val : ∀ i, i ∈ es → al i = false → Up listed i → R i (vs i) w (fun k => k < w.heap.size ∧ ∀ j, j ∈ es → al j = true → Up listed j → k ≠ bs j)
theorem lst_size (N : Nat) : ∀ d : List Nat, (lst N d).size = N
 | [] => by simp [lst]
 | i :: d => by simp [lst, lst_size N d]
theorem lst_up {N : Nat} : ∀ {d : List Nat} {i : Nat}, i < N → (Up (lst N d) i ↔ i ∈ d)
 | [], i, hi => by
  constructor
  ·
   intro h; unfold Up at h; simp [lst, hi] at h
  ·
   intro h; cases h
 | j :: d, i, hi => by
  have ih := lst_up (d := d) hi
  constructor
  ·
   intro h
   rcases h.set with h | h
   ·
    subst h; exact List.mem_cons_self
   ·
    exact List.mem_cons_of_mem _ (ih.1 h)
  ·
   intro h
   rcases List.mem_cons.1 h with h | h
   ·
    subst h; unfold Up; simp [lst, lst_size, hi]
   ·
    exact (ih.2 h).keep
theorem bool_ext {a b : Bool} (h : a = true ↔ b = true) : a = b := by cases a <;> cases b <;> simp_all
theorem lst_ext {N : Nat} {listed : Array Bool} {d : List Nat} (hs : listed.size = N) (h : ∀ i, i < N → (Up listed i ↔ i ∈ d)) : listed = lst N d := by
 apply Array.ext
 ·
  rw [hs, lst_size]
 ·
  intro i h1 h2
  have hi : i < N := by omega
  have h3 := (h i hi).trans (lst_up hi).symm
  unfold Up at h3
  have e1 : listed.getD i true = listed[i] := by simp [h1]
  have e2 : (lst N d).getD i true = (lst N d)[i] := by simp [h2]
  rw [e1, e2] at h3
  exact bool_ext h3
/-- Whether o waits for number j. -/
def waits (o : Oper) (j : Nat) : Bool := o.after.toList.any fun e => Region.binds .any e && Nat.beq e.on j
/-- What is left of es waits for nothing but for what has come up; all else waits for all of es. -/
def onlyB (ops : Array Oper) (N : Nat) (es done : List Nat) : Bool := (List.range N).all fun i => match ops[i]? with
 | none => false
 | some o => bif done.contains i then o.after.toList.all (fun e => ! Region.binds .any e || done.contains e.on)
  else bif es.contains i then o.after.toList.all (fun e => ! Region.binds .any e || done.contains e.on || (es.contains e.on && Nat.blt e.on i)) else es.all (fun j => waits o j || (List.range N).any (fun k => waits o k && match ops[k]? with | none => false | some q => waits q j))
theorem up_lt {listed : Array Bool} {N i : Nat} (hs : listed.size = N) (hi : i < N) (h : listed.getD i false = true) : Up listed i := by
 unfold Up
 have : i < listed.size := by omega
 simp [this] at h ⊢
 exact h
section
variable {P : Program} {ops : Array Oper} {N : Nat} {a : Act} {w : World}
/-- Some operations es come up in whatever order, by an invariant; then the region goes on. -/
theorem wpAnyH_es {K : Act → World → Prop} {S : World → Prop} (es done : List Nat) (Inv : Array Bool → Act → World → Prop)
    (hN : ops.size = N) (hon : onlyB ops N es done = true) (hen : es.all (fun i => Nat.blt i N) = true) (hdn : done.all (fun i => Nat.blt i N) = true)
    (step : ∀ listed a w i, Inv listed a w → S w → i ∈ es → listed.size = N → listed.getD i true = false → wpOp P ops (QN K) i (fun a' w' => S w' ∧ Inv (listed.setIfInBounds i true) a' w') a w)
    (fin : ∀ a w, Inv (lst N (es ++ done)) a w → S w → wpAnyH P .any ops (QN K) S (leftN (lst N (es ++ done)) N) (lst N (es ++ done)) a w) :
    ∀ (m : Nat) (listed : Array Bool) (a : Act) (w : World), leftN listed N = m → listed.size = N → (∀ i, i < N → Up listed i → i ∈ es ∨ i ∈ done) → (∀ i, i < N → i ∈ done → Up listed i) → (∀ i o, Up listed i → ops[i]? = some o → ∀ e, e ∈ o.after → Region.binds .any e = true → Up listed e.on) → Inv listed a w → S w → wpAnyH P .any ops (QN K) S m listed a w := by
  have hlt : ∀ i, i ∈ es → i < N := fun i hi => Nat.le_of_ble_eq_true (List.all_eq_true.1 hen i hi)
  have hdlt : ∀ i, i ∈ done → i < N := fun i hi => Nat.le_of_ble_eq_true (List.all_eq_true.1 hdn i hi)
  have hop : ∀ i, i < N → ∃ o, ops[i]? = some o := fun i hi => ⟨ops[i]'(by omega), Array.getElem?_eq_getElem (by omega)⟩
  intro m
  induction m with
  | zero =>
    intro listed a w hm hs h1 h2 hcl hI hS
    have hall : ∀ i, i < N → Up listed i := fun i hi => leftN_zero N hm i hi
    have he : listed = lst N (es ++ done) := lst_ext hs fun i hi => ⟨fun h => List.mem_append.2 (h1 i hi h), fun _ => hall i hi⟩
    have := fin a w (he ▸ hI) hS
    rw [← he, hm] at this
    exact this
  | succ m ih =>
    intro listed a w hm hs h1 h2 hcl hI hS
    by_cases hall : ∀ i, i ∈ es → Up listed i
    · have he : listed = lst N (es ++ done) := lst_ext hs fun i hi => ⟨fun h => List.mem_append.2 (h1 i hi h), fun h => (List.mem_append.1 h).elim (hall i) (h2 i hi)⟩
      have := fin a w (he ▸ hI) hS
      rw [← he, hm] at this
      exact this
    · -- the smallest that is left is ready
      have hex : ∃ i, i ∈ es ∧ ¬ Up listed i := by
        refine Classical.byContradiction fun h => hall fun i hi => Classical.byContradiction fun h' => h ⟨i, hi, h'⟩
      have hrd : ∀ i, i ∈ es → ¬ Up listed i → Region.ready .any ops listed ≠ [] := by
        intro i
        induction i using Nat.strongRecOn with
        | _ i ihi =>
          intro hi hu
          obtain ⟨o, ho⟩ := hop i (hlt i hi)
          have h3 := List.all_eq_true.1 hon i (List.mem_range.2 (hlt i hi))
          rw [ho] at h3
          have hnd : done.contains i = false := by
            cases hc : done.contains i with
            | false => rfl
            | true => exact absurd (h2 i (hlt i hi) (List.contains_iff_mem.1 hc)) hu
          have hec : es.contains i = true := List.contains_iff_mem.2 hi
          simp only [hnd, hec, cond_false, cond_true] at h3
          by_cases hd : ∃ e, e ∈ o.after ∧ Region.binds .any e = true ∧ ¬ Up listed e.on ∧ e.on < N
          · obtain ⟨e, he, heb, heu, hel⟩ := hd
            have h4 := List.all_eq_true.1 h3 e (by simpa using he)
            rw [Bool.or_eq_true, Bool.or_eq_true, Bool.and_eq_true, heb] at h4
            rcases h4 with (h4 | h4) | h4
            · cases h4
            · exact absurd (h2 _ hel (List.contains_iff_mem.1 h4)) heu
            · exact ihi e.on (Nat.le_of_ble_eq_true h4.2) (List.contains_iff_mem.1 h4.1) heu
          · intro hnil
            have hm2 : i ∈ Region.ready .any ops listed := mem_ready.2 ⟨by unfold Up at hu; simpa using hu, o, ho, fun e he heb => by
              have h4 := List.all_eq_true.1 h3 e (by simpa using he)
              rw [Bool.or_eq_true, Bool.or_eq_true, Bool.and_eq_true, heb] at h4
              have hl : e.on < N := by
                rcases h4 with (h4 | h4) | h4
                · cases h4
                · exact hdlt _ (List.contains_iff_mem.1 h4)
                · exact hlt _ (List.contains_iff_mem.1 h4.1)
              have h5 : Up listed e.on := Classical.byContradiction fun h => hd ⟨e, he, heb, h, hl⟩
              unfold Up at h5
              have h6 : e.on < listed.size := by omega
              simp [h6] at h5 ⊢
              exact h5⟩
            rw [hnil] at hm2; cases hm2
      obtain ⟨i0, hi0, hu0⟩ := hex
      refine wpAnyH_all rfl (hrd i0 hi0 hu0) fun i hi => ?_
      obtain ⟨h0, o, ho, haf⟩ := mem_ready.1 hi
      have hil : i < N := by rw [← hN]; exact (Array.getElem?_eq_some_iff.1 ho).1
      have hnu : ¬ Up listed i := fun h => by unfold Up at h; rw [h0] at h; cases h
      have hie : i ∈ es := by
        have h3 := List.all_eq_true.1 hon i (List.mem_range.2 hil)
        rw [ho] at h3
        cases hc : done.contains i with
        | true => exact absurd (h2 i hil (List.contains_iff_mem.1 hc)) hnu
        | false =>
          cases hec : es.contains i with
          | true => exact List.contains_iff_mem.1 hec
          | false =>
            simp only [hc, hec, cond_false] at h3
            have hw : ∀ k, k < N → waits o k = true → Up listed k := fun k hk hwk => by
              obtain ⟨e, he, h5⟩ := List.any_eq_true.1 hwk
              rw [Bool.and_eq_true] at h5
              have h6 := haf e (by simpa using he) h5.1
              rw [Nat.eq_of_beq_eq_true h5.2] at h6
              exact up_lt hs hk h6
            have h4 := List.all_eq_true.1 h3 i0 hi0
            rw [Bool.or_eq_true] at h4
            rcases h4 with h4 | h4
            · exact absurd (hw i0 (hlt i0 hi0) h4) hu0
            · obtain ⟨k, hk, h5⟩ := List.any_eq_true.1 h4
              rw [Bool.and_eq_true] at h5
              have h6 := hw k (List.mem_range.1 hk) h5.1
              have h7 := h5.2
              cases hq : ops[k]? with
              | none => rw [hq] at h7; cases h7
              | some q =>
                rw [hq] at h7
                obtain ⟨e, he, h8⟩ := List.any_eq_true.1 h7
                rw [Bool.and_eq_true] at h8
                have h9 := hcl k q h6 hq e (by simpa using he) h8.1
                rw [Nat.eq_of_beq_eq_true h8.2] at h9
                exact absurd h9 hu0
      refine wpOp_mono (fun a' w' h => ⟨h.1, ih _ a' w' ?_ (by simpa using hs) (fun j hj hu => ?_) (fun j hj hd => (h2 j hj hd).keep) (fun j oj hj hoj e he hb => ?_) h.2 h.1⟩) (step listed a w i hI hS hie hs h0)
      · have := (leftN_set h0 N).1 hil; omega
      · rcases hu.set with h | h
        · subst h; exact .inl hie
        · exact h1 j hj h
      · rcases hj.set with h | h
        · subst h
          rw [ho] at hoj
          cases hoj
          have h6 := haf e he hb
          refine Up.keep ?_
          unfold Up
          rw [Array.getD_eq_getD_getElem?] at h6 ⊢
          cases hle : listed[e.on]? with
          | none => rfl
          | some b => rw [hle] at h6; exact h6
        · exact (hcl j oj h hoj e he hb).keep
theorem dh_boxes {n t : Nat} {l0 : List (Nat × Value)} {zs : List Value} {K : Act → World → Prop} {S : World → Prop} {R : Nat → Value → World → (Nat → Prop) → Prop} (es done : List Nat) (dst : Nat → Nat) (al : Nat → Bool)
    (hN : ops.size = N) (hon : onlyB ops N es done = true) (hen : es.all (fun i => Nat.blt i N) = true) (hdn : done.all (fun i => Nat.blt i N) = true) (hdj : es.all (fun i => ! done.contains i) = true)
    {fuel fuel2 : Nat} (hfu : leftN (lst N done) N = fuel) (hfu2 : leftN (lst N (es ++ done)) N = fuel2)
    (hF : Fs n a l0) (hS : S w) (hSk : ∀ W W', S W → Below W.heap.size W W' → S W')
    (hd : ∀ i, i ∈ es → dst i < n ∧ lk l0 (dst i) = none) (hinj : ∀ i j, i ∈ es → j ∈ es → dst i = dst j → i = j)
    (hal : ∀ i, i ∈ es → al i = true → (ops[i]?).map (fun o => (o.dst, o.op, o.guard)) = some (some (dst i), .alloc t, none)) (hz : (P.info? t).bind (·.zero) = some (.agg zs.toArray))
    (hcall : ∀ i, i ∈ es → al i = false → ∃ (op : Op) (f : FuncId) (xs : List Operand) (ts : Array TypeId) (vals : List Value), (ops[i]?).map (fun o => (o.dst, o.op, o.guard)) = some (some (dst i), op, none) ∧ op = .call { callee := .value (.func f), args := List.toArray xs, argTypes := ts } ∧ Enters P f ∧ xs.map (ov l0) = List.map some vals ∧
      ∀ W, Below w.heap.size w W → Calls P f (List.toArray vals) W fun e w' => ∃ v, e = .returned v ∧ R i v w' (fun k => k < w'.heap.size ∧ (k < w.heap.size ∨ W.heap.size ≤ k)) ∧ Below W.heap.size W w')
    (hR : ∀ i v W W' A B, R i v W A → (∀ k, A k → k < W.heap.size ∧ B k) → Below W.heap.size W W' → R i v W' B)
    (h : ∀ (bs : Nat → Nat) (vs : Nat → Value) (a' : Act) (w' : World), Fs n a' (es.map (fun i => (dst i, if al i = true then .pointer (some ⟨bs i, 0, none⟩) else vs i)) ++ l0) → Below w.heap.size w w' → S w' → (∀ i, i ∈ es → al i = true → Blk w' (bs i) t zs ∧ w.heap.size ≤ bs i) → (∀ i j, i ∈ es → j ∈ es → al i = true → al j = true → i ≠ j → bs i ≠ bs j) →
      (∀ i, i ∈ es → al i = false → R i (vs i) w' (fun k => k < w'.heap.size ∧ ∀ j, j ∈ es → al j = true → k ≠ bs j)) → wpAnyH P .any ops (QN K) S fuel2 (lst N (es ++ done)) a' w') : wpAnyH P .any ops (QN K) S fuel (lst N done) a w := by
  subst hfu2
  have hlt : ∀ i, i ∈ es → i < N := fun i hi => Nat.le_of_ble_eq_true (List.all_eq_true.1 hen i hi)
  have hndone : ∀ i, i ∈ es → i ∉ done := fun i hi hd => by have := List.all_eq_true.1 hdj i hi; rw [List.contains_iff_mem.2 hd] at this; cases this
  refine wpAnyH_es es done (fun listed a' w' => ∃ bs vs, BoxInv n l0 dst al es t zs R w bs vs listed a' w') hN hon hen hdn ?_ ?_ _ _ a w hfu (lst_size N done) (fun i hi hu => .inr ((lst_up hi).1 hu)) (fun i hi hd => (lst_up hi).2 hd) (fun i o hu hop e he hb => ?_) ?_ hS
  · rintro listed a' w' i ⟨bs, vs, hI⟩ hSw hi hs h0
    have hnu : ¬ Up listed i := fun h => by unfold Up at h; rw [h0] at h; cases h
    have hil : i < listed.size := by rw [hs]; exact hlt i hi
    have hui : Up (listed.setIfInBounds i true) i := by unfold Up; simp [hil]
    obtain ⟨l, hFl, hll, hlu⟩ := hI.frame
    have hframe : ∀ (a2 : Act) (v : Value) (bs' : Nat → Nat) (vs' : Nat → Value), Fs n a2 ((dst i, v) :: l) → v = (if al i = true then .pointer (some ⟨bs' i, 0, none⟩) else vs' i) → (∀ j, j ≠ i → bs' j = bs j ∧ vs' j = vs j) →
        ∃ l, Fs n a2 l ∧ (∀ s u, lk l0 s = some u → lk l s = some u) ∧ ∀ j, j ∈ es → Up (listed.setIfInBounds i true) j → lk l (dst j) = some (if al j = true then .pointer (some ⟨bs' j, 0, none⟩) else vs' j) := by
      intro a2 v bs' vs' hF2 hv hne
      refine ⟨_, hF2, fun s u hs => ?_, fun j hj hu => ?_⟩
      · by_cases e : dst i = s
        · subst e; rw [(hd i hi).2] at hs; cases hs
        · rw [lk_cons_ne e]; exact hll s u hs
      · by_cases e : j = i
        · subst e; rw [lk_cons_eq, hv]
        · rw [lk_cons_ne (fun h => e (hinj _ _ hi hj h).symm), hlu j hj (hu.set.resolve_left e), (hne j e).1, (hne j e).2]
    cases ha : al i with
    | true =>
      refine d_op i _ _ (hal i hi ha) fun ty pos af => s_alloc hFl (hd i hi).1 hz fun w2 b a2 hb m2 B2 z2 hF2 => s_end ⟨hSk _ _ hSw B2, ?_⟩
      have sB := B2.size
      have hne : ∀ j, j ≠ i → (fun j => if j = i then b else bs j) j = bs j := fun j e => if_neg e
      refine ⟨fun j => if j = i then b else bs j, vs, hI.below.trans (B2.mono hI.below.size), hframe a2 _ _ vs hF2 (by simp [ha]) (fun j e => ⟨if_neg e, rfl⟩), fun j hj haj hu => ?_, fun j k hj hk haj hak huj huk hjk => ?_, fun j hj haj hu => ?_⟩
      · by_cases e : j = i
        · subst e; simp only [if_true]; exact ⟨m2, by rw [hb]; exact hI.below.size⟩
        · simp only [if_neg e]; have := hI.box j hj haj (hu.set.resolve_left e); exact ⟨this.1.old B2, this.2⟩
      · by_cases e : j = i
        · have e2 : k ≠ i := fun h => hjk (by rw [e, h])
          simp only [if_pos e, if_neg e2]
          have := (hI.box k hk hak (huk.set.resolve_left e2)).1.lt
          omega
        · by_cases e2 : k = i
          · simp only [if_pos e2, if_neg e]
            have := (hI.box j hj haj (huj.set.resolve_left e)).1.lt
            omega
          · simp only [if_neg e, if_neg e2]
            exact hI.ne j k hj hk haj hak (huj.set.resolve_left e) (huk.set.resolve_left e2) hjk
      · have e : j ≠ i := fun h => by rw [h, ha] at haj; cases haj
        refine hR j _ w' w2 _ _ (hI.val j hj haj (hu.set.resolve_left e)) (fun k hk => ⟨hk.1, by omega, fun m hm ham hum => ?_⟩) B2
        by_cases e2 : m = i
        · simp only [if_pos e2]; omega
        · simp only [if_neg e2]; exact hk.2 m hm ham (hum.set.resolve_left e2)
    | false =>
      obtain ⟨op, f, xs, ts, vals, hop, rfl, hent, hargs, hC⟩ := hcall i hi ha
      refine d_op i _ _ hop fun ty pos af => s_callR (R := fun v W' => R i v W' (fun k => k < W'.heap.size ∧ (k < w.heap.size ∨ w'.heap.size ≤ k))) vals hFl hent (ovs_more hll hargs) (hd i hi).1 (hC w' hI.below) fun v w2 a2 hv B2 hF2 => s_end ⟨hSk _ _ hSw B2, ?_⟩
      have sB := B2.size
      refine ⟨bs, fun j => if j = i then v else vs j, hI.below.trans (B2.mono hI.below.size), hframe a2 _ bs _ hF2 (by simp [ha]) (fun j e => ⟨rfl, if_neg e⟩), fun j hj haj hu => ?_, fun j k hj hk haj hak huj huk hjk => ?_, fun j hj haj hu => ?_⟩
      · have e : j ≠ i := fun h => by rw [h, ha] at haj; cases haj
        have := hI.box j hj haj (hu.set.resolve_left e); exact ⟨this.1.old B2, this.2⟩
      · have e : j ≠ i := fun h => by rw [h, ha] at haj; cases haj
        have e2 : k ≠ i := fun h => by rw [h, ha] at hak; cases hak
        exact hI.ne j k hj hk haj hak (huj.set.resolve_left e) (huk.set.resolve_left e2) hjk
      · by_cases e : j = i
        · subst e
          simp only [if_true]
          refine hR j _ w2 w2 _ _ hv (fun k hk => ⟨hk.1, hk.1, fun m hm ham hum => ?_⟩) (Below.refl _ _)
          have e2 : m ≠ j := fun h => by rw [h, ha] at ham; cases ham
          have hb := hI.box m hm ham (hum.set.resolve_left e2)
          have hbl := hb.1.lt
          rcases hk.2 with h | h <;> omega
        · simp only [if_neg e]
          refine hR j _ w' w2 _ _ (hI.val j hj haj (hu.set.resolve_left e)) (fun k hk => ⟨hk.1, by omega, fun m hm ham hum => ?_⟩) B2
          have e2 : m ≠ i := fun h => by rw [h, ha] at ham; cases ham
          exact hk.2 m hm ham (hum.set.resolve_left e2)
  · rintro a' w' ⟨bs, vs, hI⟩ hSw
    have hu : ∀ i, i ∈ es → Up (lst N (es ++ done)) i := fun i hi => (lst_up (hlt i hi)).2 (List.mem_append.2 (.inl hi))
    obtain ⟨l, hFl, hll, hlu⟩ := hI.frame
    refine h bs vs a' w' ⟨hFl.size, hFl.defers, fun s u hs => hFl.slot s u ?_⟩ hI.below hSw (fun i hi ha => hI.box i hi ha (hu i hi)) (fun i j hi hj ha hb hne => hI.ne i j hi hj ha hb (hu i hi) (hu j hj) hne)
      (fun i hi ha => hR i _ w' w' _ _ (hI.val i hi ha (hu i hi)) (fun k hk => ⟨hk.1, hk.1, fun j hj haj => hk.2 j hj haj (hu j hj)⟩) (Below.refl _ _))
    have : ∀ (ls : List Nat), (∀ i, i ∈ ls → i ∈ es) → lk (ls.map (fun i => (dst i, if al i = true then .pointer (some ⟨bs i, 0, none⟩) else vs i)) ++ l0) s = some u → lk l s = some u := by
      intro ls
      induction ls with
      | nil => intro _ hs; exact hll s u hs
      | cons j ls ih =>
        intro hls hs
        by_cases e : dst j = s
        · rw [List.map_cons, List.cons_append, e, lk_cons_eq] at hs
          rw [← e, hlu j (hls j List.mem_cons_self) (hu j (hls j List.mem_cons_self)), ← hs]
        · rw [List.map_cons, List.cons_append, lk_cons_ne e] at hs
          exact ih (fun i hi => hls i (List.mem_cons_of_mem _ hi)) hs
    exact this es (fun i hi => hi) hs
  · have hi : i < N := by rw [← hN]; exact (Array.getElem?_eq_some_iff.1 hop).1
    have hd := (lst_up hi).1 hu
    have h3 := List.all_eq_true.1 hon i (List.mem_range.2 hi)
    rw [hop] at h3
    simp only [List.contains_iff_mem.2 hd, cond_true] at h3
    have h4 := List.all_eq_true.1 h3 e (by simpa using he)
    rw [Bool.or_eq_true] at h4
    rcases h4 with h4 | h4
    · rw [hb] at h4; cases h4
    · have h5 := List.contains_iff_mem.1 h4
      exact (lst_up (Nat.le_of_ble_eq_true (List.all_eq_true.1 hdn _ h5))).2 h5
  · have hno : ∀ i, i ∈ es → ¬ Up (lst N done) i := fun i hi h => hndone i hi ((lst_up (hlt i hi)).1 h)
    exact ⟨fun _ => 0, fun _ => undef, Below.refl _ _, ⟨l0, hF, fun s u h => h, fun i hi h => absurd h (hno i hi)⟩, fun i hi _ h => absurd h (hno i hi), fun i j hi _ _ _ h => absurd h (hno i hi), fun i hi _ h => absurd h (hno i hi)⟩
end
end Go.Proofs.Ytmkjhdiepkpdoaa

namespace Go.Proofs.Ytmkjhdiepkpdoaa
set_option maxRecDepth 100000
set_option maxHeartbeats 1600000
open Go.RowKit Go.Shelf
set_option linter.unusedVariables false
set_option linter.unusedSimpArgs false
theorem Sort17t (A : Nat → Prop) (l : Lv) (z : C3) (w0 : World) (hA : ∀ k, A k → k < w0.heap.size) (hz : RLn w0 A z l) : Calls Try.prog 11 #[lv z] w0 fun e w' => ∃ u, e = .returned u ∧ (∃ y, u = tv y ∧ RE w' (AS A w0.heap.size) (.sort (slO l)) y) ∧ Below w0.heap.size w0 w' := by
 obtain ⟨zk, zn, zv⟩ := z
 obtain ⟨zm, zcs, hzs⟩ := hz.slice
 obtain ⟨az, cz, hze, _⟩ := hzs.form
 simp only at hze
 subst hze
 have hB := Below.refl w0.heap.size w0
 have sB := hB.size
 refine calls_fs 7 [(0, lv (zk, zn, .slice az zm cz))] Try.func11 rfl rfl rfl rfl rfl fun a F => ?_
 refine wp_rs fun _ K1 => ?_
 refine s_box (lc (zk, zn, .slice az zm cz)) F (by decide) rfl rfl fun w2 b1 a eb1 m1 B3 zb1 F => ?_
 have sB3 := B3.size
 have hB := bt hB B3
 refine s_alloc F (by decide) zero27 fun w4 b2 a eb2 m2 B5 zb2 F => ?_
 have sB5 := B5.size
 have hB := bt hB B5
 have m1 := m1.old B5
 refine s_end (K1 _ _ ?_)
 refine dk2_seq (b2) (b2) (ops := regOps Try.f11 1) (N := 5) (by kernel_rfl) wide_orders (by kernel_rfl) fun w6 hw6 B7 hS K2 K2 => ?_
 have zw6 : w6.heap.size = w4.heap.size := by rw [hw6]
 have sB7 := B7.size
 have hB := bt hB B7
 have m1 := m1.old B7
 have m2 := m2.old B7
 have m1_d := m1
 have m2_d := m2
 have hB_d := hB
 refine F.dv 1 4 (.load 24 (.tmp 1)) hS (fun W hW => x_ldW wide24 (m1_d.k2 hW (by omega)) rfl rfl) fun a F => F.dv 2 5 (.build 27 #[(0, (.const (.int .i64 2))), (3, (.tmp 4))]) hS (fun W hW => x_build (vs := [(0, _), (3, _)]) rfl (b27_03 _ _ _ _ _ _ _)) fun a F => ?_
 refine d1 0 (some 3) (.call (.mk (.value (.func 40)) #[] #[])) fun ty pos af => ?_
 refine s_callR (R := fun v w' => ∃ br, v = .pointer (some ⟨br, 0, none⟩) ∧ w6.heap.size ≤ br ∧ Blk w' br 102 [.int .i64 2147483647]) [] F E40 rfl (by decide) (newRoom56 w6) ?_
 rintro _ w8 a ⟨br, rfl, hbrw, mbr⟩ B9 F
 have sB9 := B9.size
 have hB := bt hB B9
 have m2 := m2.old B9
 have hS := hS.below B9
 have hR : Room w8 br := ⟨_, mbr, by decide, by decide⟩
 have hbrl := hR.lt
 refine s_end ⟨hS, ?_⟩
 refine d1 3 (some 6) (.call (.mk (.value (.func 41)) #[(.tmp 3), (.tmp 5)] #[63, 27])) fun ty pos af => ?_
 refine s_call (R := fun u w' => ((∃ y, u = tv y ∧ RE w' (AS A w8.heap.size) (CT.ess (.sort l 0)) y) ∧ Room w' br) ∧ Ktw br br w8 w') F [_, _] E41 rfl (by decide) (owned57 w8 br (by omega) A (fun k hk => by have := hA k hk; exact ⟨by omega, by omega⟩) (.sort l 0) ⟨2, 0, emptyB, (zk, zn, .slice az zm cz), nilS, nilS⟩ ⟨rfl, hz.keep hB.size (fun k hk _ => hB.block k (hA k hk)), ⟨_, Rn.nil _ _ 8⟩, ⟨_, hz.keep hB.size (fun k hk _ => hB.block k (hA k hk))⟩, [], RVn.nil _ _⟩ hR) ?_
 rintro _ w10 a ⟨⟨⟨y9, rfl, hy9⟩, hR⟩, k11⟩ F
 have sk11 := k11.size
 have hB := k11.under hB (by omega)
 have m2 := m2.k2 k11 (by omega)
 have hS := hS.trans k11 (by omega)
 refine s_end ⟨hS, ?_⟩
 refine d1 4 none (.store 27 (.tmp 2) (.tmp 6)) fun ty pos af => ?_
 refine s_putW F rfl rfl (size_wide wide27) m2 rfl hy9.one fun w14 m2 o15 => ?_
 have so15 := o15.size
 have hB := hB.trans (o15.below (by omega))
 have hS := hS.only o15 (by omega)
 have hy9 := hy9.only o15 (by intro h; rcases h with h | h; (have := hA _ h; omega); omega)
 refine s_end ⟨hS, ?_⟩
 refine d_end (by kernel_rfl) (K2 _ _ ?_)
 refine wp_ret (res_cell F rfl rfl m2 wide27 ⟨_, rfl, ⟨y9, rfl, hy9.mono (AS.mono (by omega))⟩, hB⟩)
theorem spH_ess : ∀ {c d : CT}, c.ess = d.ess → c.spH.ess = d.spH.ess ∧ c.spA.map CT.ess = d.spA.map CT.ess := by
 intro c
 induction c with
 | two k a b m iha ihb =>
  intro d h
  cases d <;> simp only [CT.ess] at h <;> try cases h
  rename_i k2 a2 b2 m2
  injection h with h1 h2 h3
  subst h1
  by_cases hk : k = 6
  ·
   simp only [CT.spH, CT.spA, hk, if_true, List.map_cons, h3]
   exact ⟨(iha h2).1, by rw [(iha h2).2]⟩
  ·
   simp [CT.spH, CT.spA, hk, CT.ess, h2, h3]
 | _ => intro d h; cases d <;> simp only [CT.ess] at h <;> first | (cases h; done) | exact ⟨h, rfl⟩ | skip
theorem sp_fit : ∀ {c : CT}, c.ess.fit → c.spH.ess.fit ∧ ∀ x ∈ c.spA, x.ess.fit := by
 intro c
 induction c with
 | two k a b m iha ihb =>
  intro h
  by_cases hk : k = 6
  ·
   simp only [CT.spH, CT.spA, hk, if_true]
   refine ⟨(iha h.1).1, fun x hx => ?_⟩
   rcases List.mem_cons.1 hx with rfl | hx
   ·
    exact h.2
   ·
    exact (iha h.1).2 x hx
  ·
   simp only [CT.spH, CT.spA, hk, if_false]
   exact ⟨h, fun x hx => by cases hx⟩
 | _ => intro h; exact ⟨h, fun x hx => by cases hx⟩
theorem apps_fit {f : PT} (hf : f.fit) : ∀ ps : List PT, (∀ p ∈ ps, p.fit) → (PT.apps f ps).fit := by
 intro ps
 unfold PT.apps
 induction ps generalizing f with
 | nil => intro _; exact hf
 | cons p ps ih => intro h; exact ih ⟨hf, h p List.mem_cons_self⟩ (fun q hq => h q (List.mem_cons_of_mem _ hq))
theorem appsR_fit {f : PT} (hf : f.fit) (ps : List PT) (h : ∀ p ∈ ps, p.fit) : (PT.appsR f ps).fit := by
 unfold PT.appsR
 split
 ·
  exact apps_fit hf ps h
 ·
  trivial
theorem appsR_ok (f : PT) (ps : List PT) : (PT.appsR f ps).ok := by
 unfold PT.appsR
 split
 ·
  assumption
 ·
  exact ⟨by decide, by decide⟩
/-- A term that a call has told. -/
def RBx (pp : Nat → PT) (tq : Nat → C8 → Prop) (i : Nat) (v : Value) (W : World) (A : Nat → Prop) : Prop := ∃ y, v = tv y ∧ RE W A (pp i) y ∧ tq i y
theorem RBx.go {pp : Nat → PT} {tq : Nat → C8 → Prop} {i : Nat} {v : Value} {W W' : World} {A B : Nat → Prop} (h : RBx pp tq i v W A) (hA : ∀ k, A k → k < W.heap.size ∧ B k) (hB : Below W.heap.size W W') : RBx pp tq i v W' B :=
 let ⟨y, h1, h2, h3⟩ := h
 ⟨y, h1, (h2.below hB).mono (fun k hk => (hA k hk).2), h3⟩
theorem RE_var_inv {W : World} {A : Nat → Prop} {n : Int} {y : C8} (h : RE W A (.var n) y) : y.k = 1 ∧ y.n = n := by
 obtain ⟨c, hc, he⟩ := h
 cases c <;> simp [CT.ess] at he
 subst he
 exact ⟨hc.1, hc.2.1⟩
theorem RE_sort_inv {W : World} {A : Nat → Prop} {u : Option SL} {y : C8} (h : RE W A (.sort u) y) : y.k = 2 ∧ ∃ l, RL W y.l l ∧ slO l = u := by
 obtain ⟨c, hc, he⟩ := h
 cases c <;> simp [CT.ess] at he
 exact ⟨hc.1, _, RLn.rl hc.2.1, he⟩
theorem RE_cst_inv {W : World} {A : Nat → Prop} {s : ByteArray} {os : List (Option SL)} {y : C8} (h : RE W A (.cst s os) y) : y.k = 7 ∧ y.s = s ∧ ∃ (ls : List Lv) (a : Option Addr) (c : Nat), y.ls = .slice a ls.length c ∧ ls.map slO = os := by
 obtain ⟨c, hc, he⟩ := h
 cases c <;> simp [CT.ess] at he
 obtain ⟨a, c, hf, _⟩ := hc.2.2.1.form
 exact ⟨hc.1, by rw [hc.2.1, he.1], _, a, c, hf, he.2⟩
theorem RE2_inv {W : World} {A : Nat → Prop} {k : Int} {p q : PT} {y : C8} (h : RE W A (.two k p q) y) (ht : Tn 2 y) : y.k = k ∧ ∃ a cp c d, y.ts = .slice a 2 cp ∧ RK W A (.slice a 2 cp) [c, d] ∧ c.ess = p ∧ d.ess = q := by
 obtain ⟨c, hc, he⟩ := h
 cases c <;> simp [CT.ess] at he
 obtain ⟨a, n, cap, h1, h2, h3, h4, h5⟩ := hc.kids
 obtain ⟨a', cp, h6⟩ := ht
 rw [h1] at h6
 cases h6
 exact ⟨by rw [hc.1, he.1], a, cap, _, _, h1, h5, he.2.1, he.2.2⟩
theorem RE3_inv {W : World} {A : Nat → Prop} {p q r : PT} {y : C8} (h : RE W A (.lt p q r) y) (ht : Tn 3 y) : y.k = 5 ∧ ∃ a cp c d e, y.ts = .slice a 3 cp ∧ RK W A (.slice a 3 cp) [c, d, e] ∧ c.ess = p ∧ d.ess = q ∧ e.ess = r := by
 obtain ⟨c, hc, he⟩ := h
 cases c <;> simp [CT.ess] at he
 obtain ⟨a, n, cap, h1, h2, h3, h4, h5⟩ := hc.kids
 obtain ⟨a', cp, h6⟩ := ht
 rw [h1] at h6
 cases h6
 exact ⟨hc.1, a, cap, _, _, _, h1, h5, he.1, he.2.1, he.2.2⟩
theorem termMakes_walk (n : Int) (xl : C3) (l : Lv) (ka kb kc : CT) (x y z : C8) (s : ByteArray) (vl va : Value) (ls : List Lv) (gs : List CT) (w0 : World) (hn : in64 n) (hl : RL w0 xl l) (hx : RC w0 (fun k => k < w0.heap.size) ka x) (fa : ka.fit) (hy : RC w0 (fun k => k < w0.heap.size) kb y) (fb : kb.fit) (hz : RC w0 (fun k => k < w0.heap.size) kc z) (fc : kc.fit) (hv : RVn w0 (fun k => k < w0.heap.size) vl ls) (nv : ls.length ≤ 9223372036854775807) (hk : RK w0 (fun k => k < w0.heap.size) va gs) (fk : ∀ c ∈ gs, c.fit) (nk : gs.length ≤ 9223372036854775807) : Calls Try.prog 3 #[.int .i64 n, lv xl, tv x, tv y, tv z, .string s, vl, va] w0 fun e w' => e = .returned (.bool true) ∧ Below w0.heap.size w0 w' := by
 obtain ⟨av, cv, hve, _⟩ := hv.form
 subst hve
 obtain ⟨ak, ck, hke, _⟩ := hk.form
 subst hke
 have hB := Below.refl w0.heap.size w0
 have sB := hB.size
 refine calls_fs 233 [(0, .int .i64 n), (1, lv xl), (2, tv x), (3, tv y), (4, tv z), (5, .string s), (6, .slice av ls.length cv), (7, .slice ak gs.length ck)] Try.func3 rfl rfl rfl rfl rfl fun a F => ?_
 refine wp_rs fun _ K1 => ?_
 refine s_box (lc xl) F (by decide) rfl rfl fun w2 b9 a eb9 m9 B3 zb9 F => ?_
 have sB3 := B3.size
 have hB := bt hB B3
 refine s_box (tc x) F (by decide) rfl rfl fun w4 b10 a eb10 m10 B5 zb10 F => ?_
 have sB5 := B5.size
 have hB := bt hB B5
 have m9 := m9.old B5
 refine s_box (tc y) F (by decide) rfl rfl fun w6 b11 a eb11 m11 B7 zb11 F => ?_
 have sB7 := B7.size
 have hB := bt hB B7
 have m9 := m9.old B7
 have m10 := m10.old B7
 refine s_box (tc z) F (by decide) rfl rfl fun w8 b12 a eb12 m12 B9 zb12 F => ?_
 have sB9 := B9.size
 have hB := bt hB B9
 have m9 := m9.old B9
 have m10 := m10.old B9
 have m11 := m11.old B9
 refine F.sg rfl fun a F => ?_
 refine s_end (K1 _ _ ?_)
 refine wp_seq_k fun _ K2 => ?_
 rcases (show ¬ ka.ok ∨ (ka.ok ∧ ¬ kb.ok) ∨ (ka.ok ∧ kb.ok ∧ ¬ kc.ok) ∨ (ka.ok ∧ kb.ok ∧ kc.ok ∧ 50 < ls.length) ∨ (ka.ok ∧ kb.ok ∧ kc.ok ∧ ¬ 50 < ls.length) by by_cases h1 : ka.ok <;> by_cases h2 : kb.ok <;> by_cases h3 : kc.ok <;> simp [h1, h2, h3] <;> omega) with hqa | ⟨hqa, hqb⟩ | ⟨hqa, hqb, hqc⟩ | ⟨hqa, hqb, hqc, hq5⟩ | ⟨hqa, hqb, hqc, hq5⟩
 ·
  skip
  refine wp_rs fun _ K4 => F.vl (x_ldW wide27 m10 rfl rfl) fun a F => ?_
  refine s_callB [_] F E8 rfl (by decide) ((TooGreat14 ka x w8 (hx.bel hB)).mono fun e w' h => ⟨by rw [h.1, decide_eq_true (p := ¬ ka.ok) hqa], h.2⟩) fun w10 a B11 F => ?_
  have sB11 := B11.size
  have hB := bt hB B11
  refine F.mv rfl fun a F => s_grdn 32 F rfl rfl (by decide) fun a F => s_grdn 32 F rfl rfl (by decide) fun a F => F.vl (x_pick (b := true) rfl rfl) fun a F => F.mv rfl fun a F => s_grdn 36 F rfl rfl (by decide) fun a F => s_grdn 36 F rfl rfl (by decide) fun a F => F.vl (x_pick (b := true) rfl rfl) fun a F => F.mv rfl fun a F => s_grdn 40 F rfl rfl (by decide) fun a F => s_grdn 40 F rfl rfl (by decide) fun a F => s_grdn 40 F rfl rfl (by decide) fun a F => F.vl (x_pick (b := true) rfl rfl) fun a F => ?_
  refine s_end (K4 _ _ ?_)
  refine wp_if F rfl ?_
  refine wp_rs fun _ K5 => ?_
  refine s_callB [] F E9 rfl (by decide) (awake15 w10) fun w12 a B13 F => ?_
  have sB13 := B13.size
  have hB := bt hB B13
  refine F.sg rfl fun a F => ?_
  refine s_end (K5 _ _ ?_)
  refine wp_ret (then_ret (res_slot F rfl rfl ⟨rfl, hB⟩))
 ·
  skip
  refine wp_rs fun _ K6 => F.vl (x_ldW wide27 m10 rfl rfl) fun a F => ?_
  refine s_callB [_] F E8 rfl (by decide) ((TooGreat14 ka x w8 (hx.bel hB)).mono fun e w' h => ⟨by rw [h.1, decide_eq_false (p := ¬ ka.ok) (fun h => h hqa)], h.2⟩) fun w14 a B15 F => ?_
  have sB15 := B15.size
  have hB := bt hB B15
  have m11 := m11.old B15
  refine F.mv rfl fun a F => s_grd 32 F rfl rfl rfl <| F.vl (x_ldW wide27 m11 rfl rfl) fun a F => s_grd 32 F rfl rfl rfl ?_
  refine s_callB [_] F E8 rfl (by decide) ((TooGreat14 kb y w14 (hy.bel hB)).mono fun e w' h => ⟨by rw [h.1, decide_eq_true (p := ¬ kb.ok) hqb], h.2⟩) fun w16 a B17 F => ?_
  have sB17 := B17.size
  have hB := bt hB B17
  refine F.vl (x_pick (b := false) rfl rfl) fun a F => F.mv rfl fun a F => s_grdn 36 F rfl rfl (by decide) fun a F => s_grdn 36 F rfl rfl (by decide) fun a F => F.vl (x_pick (b := true) rfl rfl) fun a F => F.mv rfl fun a F => s_grdn 40 F rfl rfl (by decide) fun a F => s_grdn 40 F rfl rfl (by decide) fun a F => s_grdn 40 F rfl rfl (by decide) fun a F => F.vl (x_pick (b := true) rfl rfl) fun a F => ?_
  refine s_end (K6 _ _ ?_)
  refine wp_if F rfl ?_
  refine wp_rs fun _ K7 => ?_
  refine s_callB [] F E9 rfl (by decide) (awake15 w16) fun w18 a B19 F => ?_
  have sB19 := B19.size
  have hB := bt hB B19
  refine F.sg rfl fun a F => ?_
  refine s_end (K7 _ _ ?_)
  refine wp_ret (then_ret (res_slot F rfl rfl ⟨rfl, hB⟩))
 ·
  skip
  refine wp_rs fun _ K8 => F.vl (x_ldW wide27 m10 rfl rfl) fun a F => ?_
  refine s_callB [_] F E8 rfl (by decide) ((TooGreat14 ka x w8 (hx.bel hB)).mono fun e w' h => ⟨by rw [h.1, decide_eq_false (p := ¬ ka.ok) (fun h => h hqa)], h.2⟩) fun w20 a B21 F => ?_
  have sB21 := B21.size
  have hB := bt hB B21
  have m11 := m11.old B21
  have m12 := m12.old B21
  refine F.mv rfl fun a F => s_grd 32 F rfl rfl rfl <| F.vl (x_ldW wide27 m11 rfl rfl) fun a F => s_grd 32 F rfl rfl rfl ?_
  refine s_callB [_] F E8 rfl (by decide) ((TooGreat14 kb y w20 (hy.bel hB)).mono fun e w' h => ⟨by rw [h.1, decide_eq_false (p := ¬ kb.ok) (fun h => h hqb)], h.2⟩) fun w22 a B23 F => ?_
  have sB23 := B23.size
  have hB := bt hB B23
  have m12 := m12.old B23
  refine F.vl (x_pick (b := false) rfl rfl) fun a F => F.mv rfl fun a F => s_grd 36 F rfl rfl rfl <| F.vl (x_ldW wide27 m12 rfl rfl) fun a F => s_grd 36 F rfl rfl rfl ?_
  refine s_callB [_] F E8 rfl (by decide) ((TooGreat14 kc z w22 (hz.bel hB)).mono fun e w' h => ⟨by rw [h.1, decide_eq_true (p := ¬ kc.ok) hqc], h.2⟩) fun w24 a B25 F => ?_
  have sB25 := B25.size
  have hB := bt hB B25
  refine F.vl (x_pick (b := false) rfl rfl) fun a F => F.mv rfl fun a F => s_grdn 40 F rfl rfl (by decide) fun a F => s_grdn 40 F rfl rfl (by decide) fun a F => s_grdn 40 F rfl rfl (by decide) fun a F => F.vl (x_pick (b := true) rfl rfl) fun a F => ?_
  refine s_end (K8 _ _ ?_)
  refine wp_if F rfl ?_
  refine wp_rs fun _ K9 => ?_
  refine s_callB [] F E9 rfl (by decide) (awake15 w24) fun w26 a B27 F => ?_
  have sB27 := B27.size
  have hB := bt hB B27
  refine F.sg rfl fun a F => ?_
  refine s_end (K9 _ _ ?_)
  refine wp_ret (then_ret (res_slot F rfl rfl ⟨rfl, hB⟩))
 ·
  skip
  refine wp_rs fun _ K10 => F.vl (x_ldW wide27 m10 rfl rfl) fun a F => ?_
  refine s_callB [_] F E8 rfl (by decide) ((TooGreat14 ka x w8 (hx.bel hB)).mono fun e w' h => ⟨by rw [h.1, decide_eq_false (p := ¬ ka.ok) (fun h => h hqa)], h.2⟩) fun w28 a B29 F => ?_
  have sB29 := B29.size
  have hB := bt hB B29
  have m11 := m11.old B29
  have m12 := m12.old B29
  refine F.mv rfl fun a F => s_grd 32 F rfl rfl rfl <| F.vl (x_ldW wide27 m11 rfl rfl) fun a F => s_grd 32 F rfl rfl rfl ?_
  refine s_callB [_] F E8 rfl (by decide) ((TooGreat14 kb y w28 (hy.bel hB)).mono fun e w' h => ⟨by rw [h.1, decide_eq_false (p := ¬ kb.ok) (fun h => h hqb)], h.2⟩) fun w30 a B31 F => ?_
  have sB31 := B31.size
  have hB := bt hB B31
  have m12 := m12.old B31
  refine F.vl (x_pick (b := false) rfl rfl) fun a F => F.mv rfl fun a F => s_grd 36 F rfl rfl rfl <| F.vl (x_ldW wide27 m12 rfl rfl) fun a F => s_grd 36 F rfl rfl rfl ?_
  refine s_callB [_] F E8 rfl (by decide) ((TooGreat14 kc z w30 (hz.bel hB)).mono fun e w' h => ⟨by rw [h.1, decide_eq_false (p := ¬ kc.ok) (fun h => h hqc)], h.2⟩) fun w32 a B33 F => ?_
  have sB33 := B33.size
  have hB := bt hB B33
  refine F.vl (x_pick (b := false) rfl rfl) fun a F => F.mv rfl fun a F => s_grd 40 F rfl rfl rfl <| F.mv rfl fun a F => s_grd 40 F rfl rfl rfl <| F.vl (x_len Try.underlying22 rfl) fun a F => s_grd 40 F rfl rfl rfl <| F.vl (gtrT (by omega) rfl rfl) fun a F => F.vl (x_pick (b := false) rfl rfl) fun a F => ?_
  refine s_end (K10 _ _ ?_)
  refine wp_if F rfl ?_
  refine wp_rs fun _ K11 => ?_
  refine s_callB [] F E9 rfl (by decide) (awake15 w32) fun w34 a B35 F => ?_
  have sB35 := B35.size
  have hB := bt hB B35
  refine F.sg rfl fun a F => ?_
  refine s_end (K11 _ _ ?_)
  refine wp_ret (then_ret (res_slot F rfl rfl ⟨rfl, hB⟩))
 ·
  skip
  refine wp_rs fun _ K12 => F.vl (x_ldW wide27 m10 rfl rfl) fun a F => ?_
  refine s_callB [_] F E8 rfl (by decide) ((TooGreat14 ka x w8 (hx.bel hB)).mono fun e w' h => ⟨by rw [h.1, decide_eq_false (p := ¬ ka.ok) (fun h => h hqa)], h.2⟩) fun w36 a B37 F => ?_
  have sB37 := B37.size
  have hB := bt hB B37
  have m9 := m9.old B37
  have m10 := m10.old B37
  have m11 := m11.old B37
  have m12 := m12.old B37
  refine F.mv rfl fun a F => s_grd 32 F rfl rfl rfl <| F.vl (x_ldW wide27 m11 rfl rfl) fun a F => s_grd 32 F rfl rfl rfl ?_
  refine s_callB [_] F E8 rfl (by decide) ((TooGreat14 kb y w36 (hy.bel hB)).mono fun e w' h => ⟨by rw [h.1, decide_eq_false (p := ¬ kb.ok) (fun h => h hqb)], h.2⟩) fun w38 a B39 F => ?_
  have sB39 := B39.size
  have hB := bt hB B39
  have m9 := m9.old B39
  have m10 := m10.old B39
  have m11 := m11.old B39
  have m12 := m12.old B39
  refine F.vl (x_pick (b := false) rfl rfl) fun a F => F.mv rfl fun a F => s_grd 36 F rfl rfl rfl <| F.vl (x_ldW wide27 m12 rfl rfl) fun a F => s_grd 36 F rfl rfl rfl ?_
  refine s_callB [_] F E8 rfl (by decide) ((TooGreat14 kc z w38 (hz.bel hB)).mono fun e w' h => ⟨by rw [h.1, decide_eq_false (p := ¬ kc.ok) (fun h => h hqc)], h.2⟩) fun w40 a B41 F => ?_
  have sB41 := B41.size
  have hB := bt hB B41
  have m9 := m9.old B41
  have m10 := m10.old B41
  have m11 := m11.old B41
  have m12 := m12.old B41
  refine F.vl (x_pick (b := false) rfl rfl) fun a F => F.mv rfl fun a F => s_grd 40 F rfl rfl rfl <| F.mv rfl fun a F => s_grd 40 F rfl rfl rfl <| F.vl (x_len Try.underlying22 rfl) fun a F => s_grd 40 F rfl rfl rfl <| F.vl (gtrF (by omega) rfl rfl) fun a F => F.vl (x_pick (b := false) rfl rfl) fun a F => ?_
  refine s_end (K12 _ _ ?_)
  refine wp_if F rfl ?_
  refine wp_skip (K2 _ _ ?_)
  refine dk2_seq (w40.heap.size) (w40.heap.size) (ops := regOps Try.f3 3) (N := 13) (by kernel_rfl) wide_orders (by kernel_rfl) fun w42 hw42 B43 hS K13 hK13 => ?_
  have zw42 : w42.heap.size = w40.heap.size := by rw [hw42]
  have sB43 := B43.size
  have hB := bt hB B43
  have m9 := m9.old B43
  have m10 := m10.old B43
  have m11 := m11.old B43
  have m12 := m12.old B43
  have m9_d := m9
  have m10_d := m10
  have m11_d := m11
  have m12_d := m12
  have hB_d := hB
  refine F.dv 0 46 (.move (.tmp 0)) hS (fun W hW => x_move rfl) fun a F => F.dv 2 48 (.load 24 (.tmp 9)) hS (fun W hW => x_ldW wide24 (m9_d.k2 hW (by omega)) rfl rfl) fun a F => F.dv 4 50 (.move (.tmp 5)) hS (fun W hW => x_move rfl) fun a F => F.dv 5 51 (.move (.tmp 6)) hS (fun W hW => x_move rfl) fun a F => ?_
  have hB30 := hB
  refine dh_boxes (R := RBx (fun i => bif Nat.beq i 1 then .var n else bif Nat.beq i 3 then .sort (slO l) else .cst s (ls.map slO)) (fun _ _ => True)) (fuel2 := 3) [1, 3, 6, 7, 8, 9] [5, 4, 2, 0] (fun i => bif Nat.beq i 1 then 47 else bif Nat.beq i 3 then 49 else bif Nat.beq i 6 then 52 else bif Nat.beq i 7 then 17 else bif Nat.beq i 8 then 18 else 19) (fun i => Nat.ble 7 i) (by kernel_rfl) (by kernel_rfl) (by kernel_rfl) (by kernel_rfl) (by kernel_rfl) (by kernel_rfl) (by kernel_rfl) F hS (fun W W' h B => h.below B) (by intro i hi; simp at hi; rcases hi with rfl | rfl | rfl | rfl | rfl | rfl <;> exact ⟨by decide, rfl⟩) (by intro i j hi hj; simp at hi hj; rcases hi with rfl | rfl | rfl | rfl | rfl | rfl <;> rcases hj with rfl | rfl | rfl | rfl | rfl | rfl <;> first | (intro _; rfl) | (intro h; cases h)) ?_ zero27 ?_ (fun i v W W' A B => RBx.go) ?_
  ·
   intro i hi ha
   simp at hi
   rcases hi with rfl | rfl | rfl | rfl | rfl | rfl
   ·
    cases ha
   ·
    cases ha
   ·
    cases ha
   ·
    kernel_rfl
   ·
    kernel_rfl
   ·
    kernel_rfl
  ·
   intro i hi ha
   simp at hi
   rcases hi with rfl | rfl | rfl | rfl | rfl | rfl
   ·
    refine ⟨(Go.Op.call (Go.Call.mk (Go.Callee.value (Go.Operand.func 10)) #[(Go.Operand.tmp 46)] #[3])), _, _, _, [.int .i64 n], by kernel_rfl, rfl, E10, rfl, fun W hW => ?_⟩
    have sW := hW.size
    refine (var16 n W hn).mono fun e w' h => ?_
    obtain ⟨u, h1, ⟨y9, h2, h3⟩, h4⟩ := h
    exact ⟨u, h1, ⟨y9, h2, (RC.re h3).mono (fun k hk => hk.elim), trivial⟩, h4⟩
   ·
    refine ⟨(Go.Op.call (Go.Call.mk (Go.Callee.value (Go.Operand.func 11)) #[(Go.Operand.tmp 48)] #[24])), _, _, _, [lv xl], by kernel_rfl, rfl, E11, rfl, fun W hW => ?_⟩
    have sW := hW.size
    refine (Sort17t (fun k => k < w42.heap.size) l xl W (fun k hk => by omega) ((hl.old hB).n.keep hW.size (fun k hk _ => hW.block k hk))).mono fun e w' h => ?_
    obtain ⟨u, h1, ⟨y9, h2, h3⟩, h4⟩ := h
    exact ⟨u, h1, ⟨y9, h2, h3.valid.mono (fun k hk => ⟨hk.2, hk.1⟩), trivial⟩, h4⟩
   ·
    refine ⟨(Go.Op.call (Go.Call.mk (Go.Callee.value (Go.Operand.func 12)) #[(Go.Operand.tmp 50), (Go.Operand.tmp 51)] #[9, 22])), _, _, _, [.string s, .slice av ls.length cv], by kernel_rfl, rfl, E12, rfl, fun W hW => ?_⟩
    have sW := hW.size
    refine (Const18t (fun k => k < w42.heap.size) s ls (.slice av ls.length cv) W (fun k hk => by omega) (((hv.below hB).mono (fun k hk => by omega)).below hW)).mono fun e w' h => ?_
    obtain ⟨u, h1, ⟨y9, h2, h3⟩, h4⟩ := h
    exact ⟨u, h1, ⟨y9, h2, h3.valid.mono (fun k hk => ⟨hk.2, hk.1⟩), trivial⟩, h4⟩
   ·
    cases ha
   ·
    cases ha
   ·
    cases ha
  intro bs vs a w44 F B45 _ hbx hne hvs
  have F : Fs _ a ((47, vs 1) :: (49, vs 3) :: (52, vs 6) :: (17, .pointer (some ⟨bs 7, 0, none⟩)) :: (18, .pointer (some ⟨bs 8, 0, none⟩)) :: (19, .pointer (some ⟨bs 9, 0, none⟩)) :: _) := F
  obtain ⟨m17, g17⟩ := hbx 7 (by simp) rfl
  obtain ⟨m18, g18⟩ := hbx 8 (by simp) rfl
  obtain ⟨m19, g19⟩ := hbx 9 (by simp) rfl
  have n7_8 := hne 7 8 (by simp) (by simp) rfl rfl (by decide)
  have n7_9 := hne 7 9 (by simp) (by simp) rfl rfl (by decide)
  have n8_9 := hne 8 9 (by simp) (by simp) rfl rfl (by decide)
  have sB45 := B45.size
  have hB := bt hB B45
  have m9 := m9.old B45
  have m10 := m10.old B45
  have m11 := m11.old B45
  have m12 := m12.old B45
  have hS := hS.below B45
  obtain ⟨b17, hb17⟩ : ∃ b, b = bs 7 := ⟨_, rfl⟩
  obtain ⟨b18, hb18⟩ : ∃ b, b = bs 8 := ⟨_, rfl⟩
  obtain ⟨b19, hb19⟩ : ∃ b, b = bs 9 := ⟨_, rfl⟩
  obtain ⟨T3, hT3⟩ : ∃ h, h = w44.heap.size := ⟨_, rfl⟩
  have hAll : ∀ k, (k < w44.heap.size ∧ ∀ j, j ∈ [1, 3, 6, 7, 8, 9] → (fun i => Nat.ble 7 i) j = true → k ≠ bs j) → k < T3 ∧ k ≠ b17 ∧ k ≠ b18 ∧ k ≠ b19 := fun k hk => ⟨by rw [hT3]; exact hk.1, by rw [hb17]; exact hk.2 7 (by simp) rfl, by rw [hb18]; exact hk.2 8 (by simp) rfl, by rw [hb19]; exact hk.2 9 (by simp) rfl⟩
  obtain ⟨y47, ey47, hy47, ht47⟩ := hvs 1 (by simp) rfl
  rw [ey47] at F
  have hy47 : RE w44 (fun k => k < T3 ∧ k ≠ b17 ∧ k ≠ b18 ∧ k ≠ b19) (.var n) y47 := hy47.mono hAll
  obtain ⟨y49, ey49, hy49, ht49⟩ := hvs 3 (by simp) rfl
  rw [ey49] at F
  have hy49 : RE w44 (fun k => k < T3 ∧ k ≠ b17 ∧ k ≠ b18 ∧ k ≠ b19) (.sort (slO l)) y49 := hy49.mono hAll
  obtain ⟨y52, ey52, hy52, ht52⟩ := hvs 6 (by simp) rfl
  rw [ey52] at F
  have hy52 : RE w44 (fun k => k < T3 ∧ k ≠ b17 ∧ k ≠ b18 ∧ k ≠ b19) (.cst s (ls.map slO)) y52 := hy52.mono hAll
  simp only [← hb17, ← hb18, ← hb19] at F m17 g17 m18 g18 m19 g19 n7_8 n7_9 n8_9
  clear hAll hbx hne hvs
  refine d1 10 none (.store 27 (.tmp 17) (.tmp 47)) fun ty pos af => ?_
  refine s_putW F rfl rfl (size_wide wide27) m17 rfl hy47.one fun w48 m17 o49 => ?_
  have so49 := o49.size
  have hB := hB.trans (o49.below (by omega))
  have m9 := m9.only o49 (by omega)
  have m10 := m10.only o49 (by omega)
  have m11 := m11.only o49 (by omega)
  have m12 := m12.only o49 (by omega)
  have m18 := m18.only o49 (by omega)
  have m19 := m19.only o49 (by omega)
  have hS := hS.only o49 (by omega)
  have hy47 := hy47.only o49 (fun h => by have h2 := h.2; omega)
  have hy49 := hy49.only o49 (fun h => by have h2 := h.2; omega)
  have hy52 := hy52.only o49 (fun h => by have h2 := h.2; omega)
  refine s_end ⟨hS, ?_⟩
  refine d1 11 none (.store 27 (.tmp 18) (.tmp 49)) fun ty pos af => ?_
  refine s_putW F rfl rfl (size_wide wide27) m18 rfl hy49.one fun w52 m18 o53 => ?_
  have so53 := o53.size
  have hB := hB.trans (o53.below (by omega))
  have m9 := m9.only o53 (by omega)
  have m10 := m10.only o53 (by omega)
  have m11 := m11.only o53 (by omega)
  have m12 := m12.only o53 (by omega)
  have m17 := m17.only o53 (by omega)
  have m19 := m19.only o53 (by omega)
  have hS := hS.only o53 (by omega)
  have hy47 := hy47.only o53 (fun h => by have h2 := h.2; omega)
  have hy49 := hy49.only o53 (fun h => by have h2 := h.2; omega)
  have hy52 := hy52.only o53 (fun h => by have h2 := h.2; omega)
  refine s_end ⟨hS, ?_⟩
  refine d1 12 none (.store 27 (.tmp 19) (.tmp 52)) fun ty pos af => ?_
  refine s_putW F rfl rfl (size_wide wide27) m19 rfl hy52.one fun w56 m19 o57 => ?_
  have so57 := o57.size
  have hB := hB.trans (o57.below (by omega))
  have m9 := m9.only o57 (by omega)
  have m10 := m10.only o57 (by omega)
  have m11 := m11.only o57 (by omega)
  have m12 := m12.only o57 (by omega)
  have m17 := m17.only o57 (by omega)
  have m18 := m18.only o57 (by omega)
  have hS := hS.only o57 (by omega)
  have hy47 := hy47.only o57 (fun h => by have h2 := h.2; omega)
  have hy49 := hy49.only o57 (fun h => by have h2 := h.2; omega)
  have hy52 := hy52.only o57 (fun h => by have h2 := h.2; omega)
  refine s_end ⟨hS, ?_⟩
  refine d_end (by kernel_rfl) (hK13 _ _ ?_)
  refine wp_seq_k fun _ K14 => ?_
  obtain ⟨hk47, hn47⟩ := RE_var_inv hy47
  obtain ⟨hk49, l49, hr49, hs49⟩ := RE_sort_inv hy49
  obtain ⟨hk52, hs52, ls52, a52, c52, hv52, hm52⟩ := RE_cst_inv hy52
  obtain ⟨k52, n52, s52, l52, v52, t52⟩ := y52
  simp only at hk52 hs52 hv52
  subst hv52
  have m19 : Blk w56 b19 27 [.int .i64 k52, .int .i64 n52, .string s52, .int .i64 l52.1, .int .i64 l52.2.1, l52.2.2, .slice a52 ls52.length c52, t52] := m19
  have hlen52 : ls52.length = ls.length := by have h := congrArg List.length hm52; simpa using h
  refine wp_rs fun _ K15 => F.vl (x_fa0 fa27_0 rfl) fun a F => F.ld m17 flat3 rfl rfl fun a F => F.vl (neqF (by omega) rfl rfl) fun a F => F.mv rfl fun a F => s_grd 56 F rfl rfl rfl <| F.vl (x_fa0 fa27_1 rfl) fun a F => s_grd 56 F rfl rfl rfl <| F.ld m17 flat3 rfl rfl fun a F => s_grd 56 F rfl rfl rfl <| F.mv rfl fun a F => s_grd 56 F rfl rfl rfl <| F.vl (neqF (by omega) rfl rfl) fun a F => F.vl (x_pick (b := false) rfl rfl) fun a F => F.mv rfl fun a F => s_grd 62 F rfl rfl rfl <| F.vl (x_fa0 fa27_0 rfl) fun a F => s_grd 62 F rfl rfl rfl <| F.ld m18 flat3 rfl rfl fun a F => s_grd 62 F rfl rfl rfl <| F.vl (neqF (by omega) rfl rfl) fun a F => F.vl (x_pick (b := false) rfl rfl) fun a F => F.mv rfl fun a F => s_grd 67 F rfl rfl rfl <| F.vl (x_fa0 fa27_3 rfl) fun a F => s_grd 67 F rfl rfl rfl <| F.vl (x_load rfl (m_loadP (vs := [_, _, _]) wide24 m18 rfl)) fun a F => s_grd 67 F rfl rfl rfl <| F.vl (x_ldW wide24 m9 rfl rfl) fun a F => s_grd 67 F rfl rfl rfl ?_
  refine s_callB [_, _] F E13 rfl (by decide) (sameLevel19 l49 l _ _ w56 hr49 (hl.old hB) hs49) fun w58 a B59 F => ?_
  have sB59 := B59.size
  have hB := bt hB B59
  have m9 := m9.old B59
  have m10 := m10.old B59
  have m11 := m11.old B59
  have m12 := m12.old B59
  have m19 := m19.old B59
  refine s_grd 67 F rfl rfl rfl <| F.vl (x_not rfl) fun a F => F.vl (x_pick (b := false) rfl rfl) fun a F => F.mv rfl fun a F => s_grd 74 F rfl rfl rfl <| F.vl (x_fa0 fa27_0 rfl) fun a F => s_grd 74 F rfl rfl rfl <| F.ld m19 flat3 rfl rfl fun a F => s_grd 74 F rfl rfl rfl <| F.vl (neqF (by omega) rfl rfl) fun a F => F.vl (x_pick (b := false) rfl rfl) fun a F => F.mv rfl fun a F => s_grd 79 F rfl rfl rfl <| F.vl (x_fa0 fa27_2 rfl) fun a F => s_grd 79 F rfl rfl rfl <| F.ld m19 flat9 rfl rfl fun a F => s_grd 79 F rfl rfl rfl <| F.mv rfl fun a F => s_grd 79 F rfl rfl rfl <| F.vl (x_neS9 (b := false) (decide_eq_false (fun h => h hs52)) rfl rfl) fun a F => F.vl (x_pick (b := false) rfl rfl) fun a F => F.mv rfl fun a F => s_grd 85 F rfl rfl rfl <| F.vl (x_fa0 fa27_4 rfl) fun a F => s_grd 85 F rfl rfl rfl <| F.ld m19 flat22 rfl rfl fun a F => s_grd 85 F rfl rfl rfl <| F.vl (x_len Try.underlying22 rfl) fun a F => s_grd 85 F rfl rfl rfl <| F.mv rfl fun a F => s_grd 85 F rfl rfl rfl ?_
  refine F.vl (x_len Try.underlying22 rfl) fun a F => s_grd 85 F rfl rfl rfl <| F.vl (neqF (by omega) rfl rfl) fun a F => F.vl (x_pick (b := false) rfl rfl) fun a F => ?_
  refine s_end (K15 _ _ ?_)
  refine wp_if F rfl ?_
  refine wp_skip (K14 _ _ ?_)
  skip
  refine dk2_seq (w58.heap.size) (w58.heap.size) (ops := regOps Try.f3 6) (N := 16) (by kernel_rfl) wide_orders (by kernel_rfl) fun w60 hw60 B61 hS K16 hK16 => ?_
  have zw60 : w60.heap.size = w58.heap.size := by rw [hw60]
  have sB61 := B61.size
  have hB := bt hB B61
  have m9 := m9.old B61
  have m10 := m10.old B61
  have m11 := m11.old B61
  have m12 := m12.old B61
  have m9_d := m9
  have m10_d := m10
  have m11_d := m11
  have m12_d := m12
  have hB_d := hB
  refine F.dv 0 93 (.load 27 (.tmp 10)) hS (fun W hW => x_ldW wide27 (m10_d.k2 hW (by omega)) rfl rfl) fun a F => F.dv 1 94 (.load 27 (.tmp 11)) hS (fun W hW => x_ldW wide27 (m11_d.k2 hW (by omega)) rfl rfl) fun a F => F.dv 3 96 (.load 27 (.tmp 10)) hS (fun W hW => x_ldW wide27 (m10_d.k2 hW (by omega)) rfl rfl) fun a F => F.dv 4 97 (.load 27 (.tmp 11)) hS (fun W hW => x_ldW wide27 (m11_d.k2 hW (by omega)) rfl rfl) fun a F => F.dv 6 99 (.load 27 (.tmp 10)) hS (fun W hW => x_ldW wide27 (m10_d.k2 hW (by omega)) rfl rfl) fun a F => F.dv 7 100 (.load 27 (.tmp 11)) hS (fun W hW => x_ldW wide27 (m11_d.k2 hW (by omega)) rfl rfl) fun a F => F.dv 8 101 (.load 27 (.tmp 12)) hS (fun W hW => x_ldW wide27 (m12_d.k2 hW (by omega)) rfl rfl) fun a F => ?_
  have hB60 := hB
  refine dh_boxes (R := RBx (fun i => bif Nat.beq i 2 then .two 3 ka.ess kb.ess else bif Nat.beq i 5 then .two 4 ka.ess kb.ess else .lt ka.ess kb.ess kc.ess) (fun i y => bif Nat.beq i 2 then Tn 2 y else bif Nat.beq i 5 then Tn 2 y else Tn 3 y)) (fuel2 := 3) [2, 5, 9, 10, 11, 12] [8, 7, 6, 4, 3, 1, 0] (fun i => bif Nat.beq i 2 then 95 else bif Nat.beq i 5 then 98 else bif Nat.beq i 9 then 102 else bif Nat.beq i 10 then 20 else bif Nat.beq i 11 then 21 else 22) (fun i => Nat.ble 10 i) (by kernel_rfl) (by kernel_rfl) (by kernel_rfl) (by kernel_rfl) (by kernel_rfl) (by kernel_rfl) (by kernel_rfl) F hS (fun W W' h B => h.below B) (by intro i hi; simp at hi; rcases hi with rfl | rfl | rfl | rfl | rfl | rfl <;> exact ⟨by decide, rfl⟩) (by intro i j hi hj; simp at hi hj; rcases hi with rfl | rfl | rfl | rfl | rfl | rfl <;> rcases hj with rfl | rfl | rfl | rfl | rfl | rfl <;> first | (intro _; rfl) | (intro h; cases h)) ?_ zero27 ?_ (fun i v W W' A B => RBx.go) ?_
  ·
   intro i hi ha
   simp at hi
   rcases hi with rfl | rfl | rfl | rfl | rfl | rfl
   ·
    cases ha
   ·
    cases ha
   ·
    cases ha
   ·
    kernel_rfl
   ·
    kernel_rfl
   ·
    kernel_rfl
  ·
   intro i hi ha
   simp at hi
   rcases hi with rfl | rfl | rfl | rfl | rfl | rfl
   ·
    refine ⟨(Go.Op.call (Go.Call.mk (Go.Callee.value (Go.Operand.func 14)) #[(Go.Operand.tmp 93), (Go.Operand.tmp 94)] #[27, 27])), _, _, _, [tv x, tv y], by kernel_rfl, rfl, E14, rfl, fun W hW => ?_⟩
    have sW := hW.size
    refine (Pi20t (fun k => k < w60.heap.size) ka kb x y W (fun k hk => by omega) ((hx.bel hB).below hW) ((hy.bel hB).below hW)).mono fun e w' h => ?_
    obtain ⟨u, h1, ⟨y9, h2, h3, h5⟩, h4⟩ := h
    exact ⟨u, h1, ⟨y9, h2, h3.valid.mono (fun k hk => ⟨hk.2, hk.1⟩), h5⟩, h4⟩
   ·
    refine ⟨(Go.Op.call (Go.Call.mk (Go.Callee.value (Go.Operand.func 15)) #[(Go.Operand.tmp 96), (Go.Operand.tmp 97)] #[27, 27])), _, _, _, [tv x, tv y], by kernel_rfl, rfl, E15, rfl, fun W hW => ?_⟩
    have sW := hW.size
    refine (Lam21t (fun k => k < w60.heap.size) ka kb x y W (fun k hk => by omega) ((hx.bel hB).below hW) ((hy.bel hB).below hW)).mono fun e w' h => ?_
    obtain ⟨u, h1, ⟨y9, h2, h3, h5⟩, h4⟩ := h
    exact ⟨u, h1, ⟨y9, h2, h3.valid.mono (fun k hk => ⟨hk.2, hk.1⟩), h5⟩, h4⟩
   ·
    refine ⟨(Go.Op.call (Go.Call.mk (Go.Callee.value (Go.Operand.func 16)) #[(Go.Operand.tmp 99), (Go.Operand.tmp 100), (Go.Operand.tmp 101)] #[27, 27, 27])), _, _, _, [tv x, tv y, tv z], by kernel_rfl, rfl, E16, rfl, fun W hW => ?_⟩
    have sW := hW.size
    refine (Let22t (fun k => k < w60.heap.size) ka kb kc x y z W (fun k hk => by omega) ((hx.bel hB).below hW) ((hy.bel hB).below hW) ((hz.bel hB).below hW)).mono fun e w' h => ?_
    obtain ⟨u, h1, ⟨y9, h2, h3, h5⟩, h4⟩ := h
    exact ⟨u, h1, ⟨y9, h2, h3.valid.mono (fun k hk => ⟨hk.2, hk.1⟩), h5⟩, h4⟩
   ·
    cases ha
   ·
    cases ha
   ·
    cases ha
  intro bs vs a w62 F B63 _ hbx hne hvs
  have F : Fs _ a ((95, vs 2) :: (98, vs 5) :: (102, vs 9) :: (20, .pointer (some ⟨bs 10, 0, none⟩)) :: (21, .pointer (some ⟨bs 11, 0, none⟩)) :: (22, .pointer (some ⟨bs 12, 0, none⟩)) :: _) := F
  obtain ⟨m20, g20⟩ := hbx 10 (by simp) rfl
  obtain ⟨m21, g21⟩ := hbx 11 (by simp) rfl
  obtain ⟨m22, g22⟩ := hbx 12 (by simp) rfl
  have n10_11 := hne 10 11 (by simp) (by simp) rfl rfl (by decide)
  have n10_12 := hne 10 12 (by simp) (by simp) rfl rfl (by decide)
  have n11_12 := hne 11 12 (by simp) (by simp) rfl rfl (by decide)
  have sB63 := B63.size
  have hB := bt hB B63
  have m9 := m9.old B63
  have m10 := m10.old B63
  have m11 := m11.old B63
  have m12 := m12.old B63
  have hS := hS.below B63
  obtain ⟨b20, hb20⟩ : ∃ b, b = bs 10 := ⟨_, rfl⟩
  obtain ⟨b21, hb21⟩ : ∃ b, b = bs 11 := ⟨_, rfl⟩
  obtain ⟨b22, hb22⟩ : ∃ b, b = bs 12 := ⟨_, rfl⟩
  obtain ⟨T6, hT6⟩ : ∃ h, h = w62.heap.size := ⟨_, rfl⟩
  have hAll : ∀ k, (k < w62.heap.size ∧ ∀ j, j ∈ [2, 5, 9, 10, 11, 12] → (fun i => Nat.ble 10 i) j = true → k ≠ bs j) → k < T6 ∧ k ≠ b20 ∧ k ≠ b21 ∧ k ≠ b22 := fun k hk => ⟨by rw [hT6]; exact hk.1, by rw [hb20]; exact hk.2 10 (by simp) rfl, by rw [hb21]; exact hk.2 11 (by simp) rfl, by rw [hb22]; exact hk.2 12 (by simp) rfl⟩
  obtain ⟨y95, ey95, hy95, ht95⟩ := hvs 2 (by simp) rfl
  rw [ey95] at F
  have hy95 : RE w62 (fun k => k < T6 ∧ k ≠ b20 ∧ k ≠ b21 ∧ k ≠ b22) (.two 3 ka.ess kb.ess) y95 := hy95.mono hAll
  obtain ⟨y98, ey98, hy98, ht98⟩ := hvs 5 (by simp) rfl
  rw [ey98] at F
  have hy98 : RE w62 (fun k => k < T6 ∧ k ≠ b20 ∧ k ≠ b21 ∧ k ≠ b22) (.two 4 ka.ess kb.ess) y98 := hy98.mono hAll
  obtain ⟨y102, ey102, hy102, ht102⟩ := hvs 9 (by simp) rfl
  rw [ey102] at F
  have hy102 : RE w62 (fun k => k < T6 ∧ k ≠ b20 ∧ k ≠ b21 ∧ k ≠ b22) (.lt ka.ess kb.ess kc.ess) y102 := hy102.mono hAll
  simp only [← hb20, ← hb21, ← hb22] at F m20 g20 m21 g21 m22 g22 n10_11 n10_12 n11_12
  clear hAll hbx hne hvs
  refine d1 13 none (.store 27 (.tmp 20) (.tmp 95)) fun ty pos af => ?_
  refine s_putW F rfl rfl (size_wide wide27) m20 rfl hy95.one fun w66 m20 o67 => ?_
  have so67 := o67.size
  have hB := hB.trans (o67.below (by omega))
  have m9 := m9.only o67 (by omega)
  have m10 := m10.only o67 (by omega)
  have m11 := m11.only o67 (by omega)
  have m12 := m12.only o67 (by omega)
  have m21 := m21.only o67 (by omega)
  have m22 := m22.only o67 (by omega)
  have hS := hS.only o67 (by omega)
  have hy95 := hy95.only o67 (fun h => by have h2 := h.2; omega)
  have hy98 := hy98.only o67 (fun h => by have h2 := h.2; omega)
  have hy102 := hy102.only o67 (fun h => by have h2 := h.2; omega)
  refine s_end ⟨hS, ?_⟩
  refine d1 14 none (.store 27 (.tmp 21) (.tmp 98)) fun ty pos af => ?_
  refine s_putW F rfl rfl (size_wide wide27) m21 rfl hy98.one fun w70 m21 o71 => ?_
  have so71 := o71.size
  have hB := hB.trans (o71.below (by omega))
  have m9 := m9.only o71 (by omega)
  have m10 := m10.only o71 (by omega)
  have m11 := m11.only o71 (by omega)
  have m12 := m12.only o71 (by omega)
  have m20 := m20.only o71 (by omega)
  have m22 := m22.only o71 (by omega)
  have hS := hS.only o71 (by omega)
  have hy95 := hy95.only o71 (fun h => by have h2 := h.2; omega)
  have hy98 := hy98.only o71 (fun h => by have h2 := h.2; omega)
  have hy102 := hy102.only o71 (fun h => by have h2 := h.2; omega)
  refine s_end ⟨hS, ?_⟩
  refine d1 15 none (.store 27 (.tmp 22) (.tmp 102)) fun ty pos af => ?_
  refine s_putW F rfl rfl (size_wide wide27) m22 rfl hy102.one fun w74 m22 o75 => ?_
  have so75 := o75.size
  have hB := hB.trans (o75.below (by omega))
  have m9 := m9.only o75 (by omega)
  have m10 := m10.only o75 (by omega)
  have m11 := m11.only o75 (by omega)
  have m12 := m12.only o75 (by omega)
  have m20 := m20.only o75 (by omega)
  have m21 := m21.only o75 (by omega)
  have hS := hS.only o75 (by omega)
  have hy95 := hy95.only o75 (fun h => by have h2 := h.2; omega)
  have hy98 := hy98.only o75 (fun h => by have h2 := h.2; omega)
  have hy102 := hy102.only o75 (fun h => by have h2 := h.2; omega)
  refine s_end ⟨hS, ?_⟩
  refine d_end (by kernel_rfl) (hK16 _ _ ?_)
  refine wp_seq_k fun _ K17 => ?_
  obtain ⟨hk95, a95, c95, p1, p2, ht95, hr95, he1, he2⟩ := RE2_inv hy95 ht95
  obtain ⟨hk98, a98, c98, q1, q2, ht98, hr98, hf1, hf2⟩ := RE2_inv hy98 ht98
  obtain ⟨hk102, a102, c102, r1, r2, r3, ht102, hr102, hg1, hg2, hg3⟩ := RE3_inv hy102 ht102
  obtain ⟨k95, n95, s95, l95, v95, t95⟩ := y95
  simp only at hk95 ht95
  subst ht95
  obtain ⟨k98, n98, s98, l98, v98, t98⟩ := y98
  simp only at hk98 ht98
  subst ht98
  obtain ⟨k102, n102, s102, l102, v102, t102⟩ := y102
  simp only at hk102 ht102
  subst ht102
  have m20 : Blk w74 b20 27 [.int .i64 k95, .int .i64 n95, .string s95, .int .i64 l95.1, .int .i64 l95.2.1, l95.2.2, v95, .slice a95 2 c95] := m20
  have m21 : Blk w74 b21 27 [.int .i64 k98, .int .i64 n98, .string s98, .int .i64 l98.1, .int .i64 l98.2.1, l98.2.2, v98, .slice a98 2 c98] := m21
  have m22 : Blk w74 b22 27 [.int .i64 k102, .int .i64 n102, .string s102, .int .i64 l102.1, .int .i64 l102.2.1, l102.2.2, v102, .slice a102 3 c102] := m22
  have hm20l := m20.lt
  have hm21l := m21.lt
  have hm22l := m22.lt
  have hB7 := Below.refl w74.heap.size w74
  have sB7 := hB7.size
  obtain ⟨f137, o137, d137, y137, k137, hve, hyk137, hry137, hAb137, hbl137, hrow137⟩ := hr95.row (i := 1) (by simp)
  cases hve
  obtain ⟨f146, o146, d146, y146, k146, hve, hyk146, hry146, hAb146, hbl146, hrow146⟩ := hr98.row (i := 0) (by simp)
  cases hve
  obtain ⟨f155, o155, d155, y155, k155, hve, hyk155, hry155, hAb155, hbl155, hrow155⟩ := hr102.row (i := 1) (by simp)
  cases hve
  obtain ⟨f164, o164, d164, y164, k164, hve, hyk164, hry164, hAb164, hbl164, hrow164⟩ := hr102.row (i := 2) (by simp)
  cases hve
  simp at hyk137 hyk146 hyk155 hyk164
  subst hyk137 hyk146 hyk155 hyk164
  refine dk2_seq (w74.heap.size) (w74.heap.size) (ops := regOps Try.f3 7) (N := 67) (by kernel_rfl) wide_orders (by kernel_rfl) fun w76 hw76 B77 hS K18 hK18 => ?_
  have zw76 : w76.heap.size = w74.heap.size := by rw [hw76]
  have sB77 := B77.size
  have hB := bt hB B77
  have hB7 := bt hB7 B77
  have m9 := m9.old B77
  have m10 := m10.old B77
  have m11 := m11.old B77
  have m12 := m12.old B77
  have m20 := m20.old B77
  have m21 := m21.old B77
  have m22 := m22.old B77
  have m9_d := m9
  have m10_d := m10
  have m11_d := m11
  have m12_d := m12
  have m20_d := m20
  have m21_d := m21
  have m22_d := m22
  have hB_d := hB
  have hB7_d := hB7
  refine F.dv 0 103 (.fieldAddr 27 (.tmp 20) 0) hS (fun W hW => x_fa0 fa27_0 rfl) fun a F => F.dv 1 104 (.load 3 (.tmp 103)) hS (fun W hW => x_load rfl (m_load flat3 ((m20_d.k2 hW (by omega)).cell (j := 0) rfl))) fun a F => F.dv 2 105 (.binOp .neq 3 (.tmp 104) (.const (.int .i64 3)) 3) hS (fun W hW => neqF (by omega) rfl rfl) fun a F => F.dv 3 106 (.move (.tmp 105)) hS (fun W hW => x_move rfl) fun a F => F.dg 4 107 106 3 false (.fieldAddr 27 (.tmp 21) 0) hS rfl (fun W hW => x_fa0 fa27_0 rfl) fun a F => F.dg 5 108 106 3 false (.load 3 (.tmp 107)) hS rfl (fun W hW => x_load rfl (m_load flat3 ((m21_d.k2 hW (by omega)).cell (j := 0) rfl))) fun a F => F.dg 6 109 106 3 false (.binOp .neq 3 (.tmp 108) (.const (.int .i64 4)) 3) hS rfl (fun W hW => neqF (by omega) rfl rfl) fun a F => F.dv 7 110 (.pick (.tmp 106) (.const (.bool true)) (.tmp 109)) hS (fun W hW => x_pick (b := false) rfl rfl) fun a F => F.dv 8 111 (.move (.tmp 110)) hS (fun W hW => x_move rfl) fun a F => F.dg 9 112 111 8 false (.fieldAddr 27 (.tmp 22) 0) hS rfl (fun W hW => x_fa0 fa27_0 rfl) fun a F => F.dg 10 113 111 8 false (.load 3 (.tmp 112)) hS rfl (fun W hW => x_load rfl (m_load flat3 ((m22_d.k2 hW (by omega)).cell (j := 0) rfl))) fun a F => F.dg 11 114 111 8 false (.binOp .neq 3 (.tmp 113) (.const (.int .i64 5)) 3) hS rfl (fun W hW => neqF (by omega) rfl rfl) fun a F => F.dv 12 115 (.pick (.tmp 111) (.const (.bool true)) (.tmp 114)) hS (fun W hW => x_pick (b := false) rfl rfl) fun a F => F.dv 13 116 (.move (.tmp 115)) hS (fun W hW => x_move rfl) fun a F => F.dg 14 117 116 13 false (.fieldAddr 27 (.tmp 20) 5) hS rfl (fun W hW => x_fa0 fa27_5 rfl) fun a F => F.dg 15 118 116 13 false (.load 25 (.tmp 117)) hS rfl (fun W hW => x_load rfl (m_load flat25 ((m20_d.k2 hW (by omega)).cell (j := 7) rfl))) fun a F => F.dg 16 119 116 13 false (.call (.mk (.builtin .len) #[(.tmp 118)] #[25])) hS rfl (fun W hW => x_len Try.underlying25 rfl) fun a F => F.dg 17 120 116 13 false (.binOp .neq 3 (.tmp 119) (.const (.int .i64 2)) 3) hS rfl (fun W hW => neqF (by omega) rfl rfl) fun a F => F.dv 18 121 (.pick (.tmp 116) (.const (.bool true)) (.tmp 120)) hS (fun W hW => x_pick (b := false) rfl rfl) fun a F => F.dv 19 122 (.move (.tmp 121)) hS (fun W hW => x_move rfl) fun a F => F.dg 20 123 122 19 false (.fieldAddr 27 (.tmp 21) 5) hS rfl (fun W hW => x_fa0 fa27_5 rfl) fun a F => F.dg 21 124 122 19 false (.load 25 (.tmp 123)) hS rfl (fun W hW => x_load rfl (m_load flat25 ((m21_d.k2 hW (by omega)).cell (j := 7) rfl))) fun a F => F.dg 22 125 122 19 false (.call (.mk (.builtin .len) #[(.tmp 124)] #[25])) hS rfl (fun W hW => x_len Try.underlying25 rfl) fun a F => F.dg 23 126 122 19 false (.binOp .neq 3 (.tmp 125) (.const (.int .i64 2)) 3) hS rfl (fun W hW => neqF (by omega) rfl rfl) fun a F => F.dv 24 127 (.pick (.tmp 122) (.const (.bool true)) (.tmp 126)) hS (fun W hW => x_pick (b := false) rfl rfl) fun a F => F.dv 25 128 (.move (.tmp 127)) hS (fun W hW => x_move rfl) fun a F => F.dg 26 129 128 25 false (.fieldAddr 27 (.tmp 22) 5) hS rfl (fun W hW => x_fa0 fa27_5 rfl) fun a F => F.dg 27 130 128 25 false (.load 25 (.tmp 129)) hS rfl (fun W hW => x_load rfl (m_load flat25 ((m22_d.k2 hW (by omega)).cell (j := 7) rfl))) fun a F => F.dg 28 131 128 25 false (.call (.mk (.builtin .len) #[(.tmp 130)] #[25])) hS rfl (fun W hW => x_len Try.underlying25 rfl) fun a F => F.dg 29 132 128 25 false (.binOp .neq 3 (.tmp 131) (.const (.int .i64 3)) 3) hS rfl (fun W hW => neqF (by omega) rfl rfl) fun a F => F.dv 30 133 (.pick (.tmp 128) (.const (.bool true)) (.tmp 132)) hS (fun W hW => x_pick (b := false) rfl rfl) fun a F => ?_
  refine F.dv 31 134 (.move (.tmp 133)) hS (fun W hW => x_move rfl) fun a F => F.dg 32 135 134 31 false (.fieldAddr 27 (.tmp 20) 5) hS rfl (fun W hW => x_fa0 fa27_5 rfl) fun a F => F.dg 33 136 134 31 false (.load 25 (.tmp 135)) hS rfl (fun W hW => x_load rfl (m_load flat25 ((m20_d.k2 hW (by omega)).cell (j := 7) rfl))) fun a F => F.dg 34 137 134 31 false (.indexAddr 25 (.tmp 136) (.const (.int .i64 1))) hS rfl (fun W hW => x_ixa rfl rfl (m_ixsK 1 Try.underlying25 el25.size rfl (by omega))) fun a F => F.dg 35 138 134 31 false (.load 27 (.tmp 137)) hS rfl (fun W hW => x_ldA wide27 (hrow137 _ ((hW.under hB7_d (by omega)).block _ hbl137)) rfl rfl) fun a F => F.dg 36 139 134 31 false (.load 27 (.tmp 11)) hS rfl (fun W hW => x_ldW wide27 (m11_d.k2 hW (by omega)) rfl rfl) fun a F => ?_
  refine d_oneg 37 134 (some 140) (.call (.mk (.value (.func 17)) #[(.tmp 138), (.tmp 139)] #[27, 27])) (j := 31) (want := false) F (by kernel_rfl) (by kernel_rfl) (by kernel_rfl) rfl fun ty pos af => ?_
  refine s_callB [_, _] F E17 rfl (by decide) (alike23L p2 kb y137 y w76 ((RC.mono (fun k hk => by omega) hry137).bel hB7) (hy.bel hB) he2 (by rw [he2]; exact CT.fit_ess fb)) fun w78 a B79 F => ?_
  have sB79 := B79.size
  have hB := bt hB B79
  have hB7 := bt hB7 B79
  have m9 := m9.old B79
  have m10 := m10.old B79
  have m11 := m11.old B79
  have m12 := m12.old B79
  have hS := hS.below B79
  refine s_end ⟨hS, ?_⟩
  refine F.dg 38 141 134 31 false (.unOp .not 4 (.tmp 140)) hS rfl (fun W hW => x_not rfl) fun a F => F.dv 39 142 (.pick (.tmp 134) (.const (.bool true)) (.tmp 141)) hS (fun W hW => x_pick (b := false) rfl rfl) fun a F => F.dv 40 143 (.move (.tmp 142)) hS (fun W hW => x_move rfl) fun a F => F.dg 41 144 143 40 false (.fieldAddr 27 (.tmp 21) 5) hS rfl (fun W hW => x_fa0 fa27_5 rfl) fun a F => F.dg 42 145 143 40 false (.load 25 (.tmp 144)) hS rfl (fun W hW => x_load rfl (m_load flat25 ((m21_d.k2 hW (by omega)).cell (j := 7) rfl))) fun a F => F.dg 43 146 143 40 false (.indexAddr 25 (.tmp 145) (.const (.int .i64 0))) hS rfl (fun W hW => x_ixa rfl rfl (m_ixsK 0 Try.underlying25 el25.size rfl (by omega))) fun a F => F.dg 44 147 143 40 false (.load 27 (.tmp 146)) hS rfl (fun W hW => x_ldA wide27 (hrow146 _ ((hW.under hB7_d (by omega)).block _ hbl146)) rfl rfl) fun a F => F.dg 45 148 143 40 false (.load 27 (.tmp 10)) hS rfl (fun W hW => x_ldW wide27 (m10_d.k2 hW (by omega)) rfl rfl) fun a F => ?_
  refine d_oneg 46 143 (some 149) (.call (.mk (.value (.func 17)) #[(.tmp 147), (.tmp 148)] #[27, 27])) (j := 40) (want := false) F (by kernel_rfl) (by kernel_rfl) (by kernel_rfl) rfl fun ty pos af => ?_
  refine s_callB [_, _] F E17 rfl (by decide) (alike23L q1 ka y146 x w78 ((RC.mono (fun k hk => by omega) hry146).bel hB7) (hx.bel hB) hf1 (by rw [hf1]; exact CT.fit_ess fa)) fun w80 a B81 F => ?_
  have sB81 := B81.size
  have hB := bt hB B81
  have hB7 := bt hB7 B81
  have m9 := m9.old B81
  have m10 := m10.old B81
  have m11 := m11.old B81
  have m12 := m12.old B81
  have hS := hS.below B81
  refine s_end ⟨hS, ?_⟩
  refine F.dg 47 150 143 40 false (.unOp .not 4 (.tmp 149)) hS rfl (fun W hW => x_not rfl) fun a F => F.dv 48 151 (.pick (.tmp 143) (.const (.bool true)) (.tmp 150)) hS (fun W hW => x_pick (b := false) rfl rfl) fun a F => F.dv 49 152 (.move (.tmp 151)) hS (fun W hW => x_move rfl) fun a F => F.dg 50 153 152 49 false (.fieldAddr 27 (.tmp 22) 5) hS rfl (fun W hW => x_fa0 fa27_5 rfl) fun a F => F.dg 51 154 152 49 false (.load 25 (.tmp 153)) hS rfl (fun W hW => x_load rfl (m_load flat25 ((m22_d.k2 hW (by omega)).cell (j := 7) rfl))) fun a F => F.dg 52 155 152 49 false (.indexAddr 25 (.tmp 154) (.const (.int .i64 1))) hS rfl (fun W hW => x_ixa rfl rfl (m_ixsK 1 Try.underlying25 el25.size rfl (by omega))) fun a F => F.dg 53 156 152 49 false (.load 27 (.tmp 155)) hS rfl (fun W hW => x_ldA wide27 (hrow155 _ ((hW.under hB7_d (by omega)).block _ hbl155)) rfl rfl) fun a F => F.dg 54 157 152 49 false (.load 27 (.tmp 11)) hS rfl (fun W hW => x_ldW wide27 (m11_d.k2 hW (by omega)) rfl rfl) fun a F => ?_
  refine d_oneg 55 152 (some 158) (.call (.mk (.value (.func 17)) #[(.tmp 156), (.tmp 157)] #[27, 27])) (j := 49) (want := false) F (by kernel_rfl) (by kernel_rfl) (by kernel_rfl) rfl fun ty pos af => ?_
  refine s_callB [_, _] F E17 rfl (by decide) (alike23L r2 kb y155 y w80 ((RC.mono (fun k hk => by omega) hry155).bel hB7) (hy.bel hB) hg2 (by rw [hg2]; exact CT.fit_ess fb)) fun w82 a B83 F => ?_
  have sB83 := B83.size
  have hB := bt hB B83
  have hB7 := bt hB7 B83
  have m9 := m9.old B83
  have m10 := m10.old B83
  have m11 := m11.old B83
  have m12 := m12.old B83
  have hS := hS.below B83
  refine s_end ⟨hS, ?_⟩
  refine F.dg 56 159 152 49 false (.unOp .not 4 (.tmp 158)) hS rfl (fun W hW => x_not rfl) fun a F => F.dv 57 160 (.pick (.tmp 152) (.const (.bool true)) (.tmp 159)) hS (fun W hW => x_pick (b := false) rfl rfl) fun a F => F.dv 58 161 (.move (.tmp 160)) hS (fun W hW => x_move rfl) fun a F => F.dg 59 162 161 58 false (.fieldAddr 27 (.tmp 22) 5) hS rfl (fun W hW => x_fa0 fa27_5 rfl) fun a F => F.dg 60 163 161 58 false (.load 25 (.tmp 162)) hS rfl (fun W hW => x_load rfl (m_load flat25 ((m22_d.k2 hW (by omega)).cell (j := 7) rfl))) fun a F => F.dg 61 164 161 58 false (.indexAddr 25 (.tmp 163) (.const (.int .i64 2))) hS rfl (fun W hW => x_ixa rfl rfl (m_ixsK 2 Try.underlying25 el25.size rfl (by omega))) fun a F => F.dg 62 165 161 58 false (.load 27 (.tmp 164)) hS rfl (fun W hW => x_ldA wide27 (hrow164 _ ((hW.under hB7_d (by omega)).block _ hbl164)) rfl rfl) fun a F => F.dg 63 166 161 58 false (.load 27 (.tmp 12)) hS rfl (fun W hW => x_ldW wide27 (m12_d.k2 hW (by omega)) rfl rfl) fun a F => ?_
  refine d_oneg 64 161 (some 167) (.call (.mk (.value (.func 17)) #[(.tmp 165), (.tmp 166)] #[27, 27])) (j := 58) (want := false) F (by kernel_rfl) (by kernel_rfl) (by kernel_rfl) rfl fun ty pos af => ?_
  refine s_callB [_, _] F E17 rfl (by decide) (alike23L r3 kc y164 z w82 ((RC.mono (fun k hk => by omega) hry164).bel hB7) (hz.bel hB) hg3 (by rw [hg3]; exact CT.fit_ess fc)) fun w84 a B85 F => ?_
  have sB85 := B85.size
  have hB := bt hB B85
  have hB7 := bt hB7 B85
  have m9 := m9.old B85
  have m10 := m10.old B85
  have m11 := m11.old B85
  have m12 := m12.old B85
  have hS := hS.below B85
  refine s_end ⟨hS, ?_⟩
  refine F.dg 65 168 161 58 false (.unOp .not 4 (.tmp 167)) hS rfl (fun W hW => x_not rfl) fun a F => F.dv 66 169 (.pick (.tmp 161) (.const (.bool true)) (.tmp 168)) hS (fun W hW => x_pick (b := false) rfl rfl) fun a F => ?_
  refine d_end (by kernel_rfl) (hK18 _ _ ?_)
  refine wp_if F rfl ?_
  refine wp_skip (K17 _ _ ?_)
  refine wp_seq_k fun _ K19 => ?_
  rcases (show 20 < gs.length ∨ ¬ 20 < gs.length by omega) with hq2 | hq2
  ·
   skip
   refine wp_rs fun _ K21 => F.mv rfl fun a F => F.vl (x_len Try.underlying25 rfl) fun a F => F.vl (gtrT (by omega) rfl rfl) fun a F => ?_
   refine s_end (K21 _ _ ?_)
   refine wp_if F rfl ?_
   refine wp_rs fun _ K22 => ?_
   refine s_callB [] F E9 rfl (by decide) (awake15 w84) fun w86 a B87 F => ?_
   have sB87 := B87.size
   have hB := bt hB B87
   refine F.sg rfl fun a F => ?_
   refine s_end (K22 _ _ ?_)
   refine wp_ret (then_ret (res_slot F rfl rfl ⟨rfl, hB⟩))
  ·
   skip
   refine wp_rs fun _ K23 => F.mv rfl fun a F => F.vl (x_len Try.underlying25 rfl) fun a F => F.vl (gtrF (by omega) rfl rfl) fun a F => ?_
   refine s_end (K23 _ _ ?_)
   refine wp_if F rfl ?_
   refine wp_skip (K19 _ _ ?_)
   skip
   refine dk2_seq (w84.heap.size) (w84.heap.size) (ops := regOps Try.f3 11) (N := 10) (by kernel_rfl) wide_orders (by kernel_rfl) fun w88 hw88 B89 hS K24 hK24 => ?_
   have zw88 : w88.heap.size = w84.heap.size := by rw [hw88]
   have sB89 := B89.size
   have hB := bt hB B89
   have hB7 := bt hB7 B89
   have m9 := m9.old B89
   have m10 := m10.old B89
   have m11 := m11.old B89
   have m12 := m12.old B89
   have m9_d := m9
   have m10_d := m10
   have m11_d := m11
   have m12_d := m12
   have hB_d := hB
   have hB7_d := hB7
   refine F.dv 0 174 (.load 27 (.tmp 10)) hS (fun W hW => x_ldW wide27 (m10_d.k2 hW (by omega)) rfl rfl) fun a F => F.dv 1 175 (.move (.tmp 7)) hS (fun W hW => x_move rfl) fun a F => F.dv 3 177 (.load 27 (.tmp 10)) hS (fun W hW => x_ldW wide27 (m10_d.k2 hW (by omega)) rfl rfl) fun a F => F.dv 4 178 (.move (.tmp 7)) hS (fun W hW => x_move rfl) fun a F => ?_
   have hB110 := hB
   refine dh_boxes (R := RBx (fun i => bif Nat.beq i 2 then PT.appsR ka.ess (gs.map CT.ess) else PT.appsR ka.ess (gs.map CT.ess)) (fun _ _ => True)) (fuel2 := 2) [2, 5, 6, 7] [4, 3, 1, 0] (fun i => bif Nat.beq i 2 then 176 else bif Nat.beq i 5 then 179 else bif Nat.beq i 6 then 23 else 24) (fun i => Nat.ble 6 i) (by kernel_rfl) (by kernel_rfl) (by kernel_rfl) (by kernel_rfl) (by kernel_rfl) (by kernel_rfl) (by kernel_rfl) F hS (fun W W' h B => h.below B) (by intro i hi; simp at hi; rcases hi with rfl | rfl | rfl | rfl <;> exact ⟨by decide, rfl⟩) (by intro i j hi hj; simp at hi hj; rcases hi with rfl | rfl | rfl | rfl <;> rcases hj with rfl | rfl | rfl | rfl <;> first | (intro _; rfl) | (intro h; cases h)) ?_ zero27 ?_ (fun i v W W' A B => RBx.go) ?_
   ·
    intro i hi ha
    simp at hi
    rcases hi with rfl | rfl | rfl | rfl
    ·
     cases ha
    ·
     cases ha
    ·
     kernel_rfl
    ·
     kernel_rfl
   ·
    intro i hi ha
    simp at hi
    rcases hi with rfl | rfl | rfl | rfl
    ·
     refine ⟨(Go.Op.call (Go.Call.mk (Go.Callee.value (Go.Operand.func 18)) #[(Go.Operand.tmp 174), (Go.Operand.tmp 175)] #[27, 25])), _, _, _, [tv x, .slice ak gs.length ck], by kernel_rfl, rfl, E18, rfl, fun W hW => ?_⟩
     have sW := hW.size
     refine (Apps24t (fun k => k < w88.heap.size) ka x gs _ W (fun k hk => by omega) ((hx.bel hB).below hW) (((hk.below hB).mono (fun k hk => by omega)).below hW) (by omega)).mono fun e w' h => ?_
     obtain ⟨u, h1, ⟨y9, h2, h3⟩, h4⟩ := h
     exact ⟨u, h1, ⟨y9, h2, h3.valid.mono (fun k hk => ⟨hk.2, hk.1⟩), trivial⟩, h4⟩
    ·
     refine ⟨(Go.Op.call (Go.Call.mk (Go.Callee.value (Go.Operand.func 19)) #[(Go.Operand.tmp 177), (Go.Operand.tmp 178)] #[27, 25])), _, _, _, [tv x, .slice ak gs.length ck], by kernel_rfl, rfl, E19, rfl, fun W hW => ?_⟩
     have sW := hW.size
     refine (rApps25 (fun k => k < w88.heap.size) ka x gs _ W (fun k hk => by omega) ((hx.bel hB).below hW) (((hk.below hB).mono (fun k hk => by omega)).below hW) (by omega)).mono fun e w' h => ?_
     obtain ⟨u, h1, ⟨y9, h2, h3⟩, h4⟩ := h
     exact ⟨u, h1, ⟨y9, h2, h3.valid.mono (fun k hk => ⟨hk.2, hk.1⟩), trivial⟩, h4⟩
    ·
     cases ha
    ·
     cases ha
   intro bs vs a w90 F B91 _ hbx hne hvs
   have F : Fs _ a ((176, vs 2) :: (179, vs 5) :: (23, .pointer (some ⟨bs 6, 0, none⟩)) :: (24, .pointer (some ⟨bs 7, 0, none⟩)) :: _) := F
   obtain ⟨m23, g23⟩ := hbx 6 (by simp) rfl
   obtain ⟨m24, g24⟩ := hbx 7 (by simp) rfl
   have n6_7 := hne 6 7 (by simp) (by simp) rfl rfl (by decide)
   have sB91 := B91.size
   have hB := bt hB B91
   have hS := hS.below B91
   obtain ⟨b23, hb23⟩ : ∃ b, b = bs 6 := ⟨_, rfl⟩
   obtain ⟨b24, hb24⟩ : ∃ b, b = bs 7 := ⟨_, rfl⟩
   obtain ⟨T11, hT11⟩ : ∃ h, h = w90.heap.size := ⟨_, rfl⟩
   have hAll : ∀ k, (k < w90.heap.size ∧ ∀ j, j ∈ [2, 5, 6, 7] → (fun i => Nat.ble 6 i) j = true → k ≠ bs j) → k < T11 ∧ k ≠ b23 ∧ k ≠ b24 := fun k hk => ⟨by rw [hT11]; exact hk.1, by rw [hb23]; exact hk.2 6 (by simp) rfl, by rw [hb24]; exact hk.2 7 (by simp) rfl⟩
   obtain ⟨y176, ey176, hy176, ht176⟩ := hvs 2 (by simp) rfl
   rw [ey176] at F
   have hy176 : RE w90 (fun k => k < T11 ∧ k ≠ b23 ∧ k ≠ b24) (PT.appsR ka.ess (gs.map CT.ess)) y176 := hy176.mono hAll
   obtain ⟨y179, ey179, hy179, ht179⟩ := hvs 5 (by simp) rfl
   rw [ey179] at F
   have hy179 : RE w90 (fun k => k < T11 ∧ k ≠ b23 ∧ k ≠ b24) (PT.appsR ka.ess (gs.map CT.ess)) y179 := hy179.mono hAll
   simp only [← hb23, ← hb24] at F m23 g23 m24 g24 n6_7
   clear hAll hbx hne hvs
   refine d1 8 none (.store 27 (.tmp 23) (.tmp 176)) fun ty pos af => ?_
   refine s_putW F rfl rfl (size_wide wide27) m23 rfl hy176.one fun w94 m23 o95 => ?_
   have so95 := o95.size
   have hB := hB.trans (o95.below (by omega))
   have m24 := m24.only o95 (by omega)
   have hS := hS.only o95 (by omega)
   have hy176 := hy176.only o95 (fun h => by have h2 := h.2; omega)
   have hy179 := hy179.only o95 (fun h => by have h2 := h.2; omega)
   refine s_end ⟨hS, ?_⟩
   refine d1 9 none (.store 27 (.tmp 24) (.tmp 179)) fun ty pos af => ?_
   refine s_putW F rfl rfl (size_wide wide27) m24 rfl hy179.one fun w98 m24 o99 => ?_
   have so99 := o99.size
   have hB := hB.trans (o99.below (by omega))
   have m23 := m23.only o99 (by omega)
   have hS := hS.only o99 (by omega)
   have hy176 := hy176.only o99 (fun h => by have h2 := h.2; omega)
   have hy179 := hy179.only o99 (fun h => by have h2 := h.2; omega)
   refine s_end ⟨hS, ?_⟩
   refine d_end (by kernel_rfl) (hK24 _ _ ?_)
   refine wp_seq_k fun _ K25 => ?_
   have hfP := appsR_fit (CT.fit_ess fa) (gs.map CT.ess) (fun p hp => by obtain ⟨q, hq, he⟩ := List.mem_map.1 hp; rw [← he]; exact CT.fit_ess (fk q hq))
   have hoP := appsR_ok ka.ess (gs.map CT.ess)
   obtain ⟨ct, hct, het⟩ := hy176
   obtain ⟨cu, hcu, heu⟩ := hy179
   have okt : ct.ok := ct.ok_ess.1 (by rw [het]; exact hoP)
   have oku : cu.ok := cu.ok_ess.1 (by rw [heu]; exact hoP)
   have hmN : 0 < cu.mN := by unfold CT.mN; rw [if_pos oku]; exact CT.size_pos cu
   have hm23l := m23.lt
   have hm24l := m24.lt
   have hB9 := Below.refl w98.heap.size w98
   have sB9 := hB9.size
   have hcu := RC.mono (B := fun k => k < w98.heap.size) (fun k hk => by omega) hcu
   have hct := RC.mono (B := fun k => k < w98.heap.size) (fun k hk => by omega) hct
   refine wp_rs fun _ K26 => F.vl (x_ldW wide27 m24 rfl rfl) fun a F => ?_
   refine s_callB [_] F E20 rfl (by decide) (Size26 cu y179 w98 (hcu.bel hB9)) fun w100 a B101 F => ?_
   have sB101 := B101.size
   have hB := bt hB B101
   have hB9 := bt hB9 B101
   have m23 := m23.old B101
   have m24 := m24.old B101
   refine F.vl (eqlF (by omega) rfl rfl) fun a F => ?_
   refine s_end (K26 _ _ ?_)
   refine wp_if F rfl ?_
   refine wp_skip (K25 _ _ ?_)
   refine wp_rs fun _ K27 => F.vl (x_ldW wide27 m23 rfl rfl) fun a F => ?_
   refine s_callR (R := fun u w' => ∃ y v, u = .tuple #[tv y, v] ∧ RE w' (AS (fun k => k < w100.heap.size) w100.heap.size) ct.spH.ess y ∧ RKE w' (AS (fun k => k < w100.heap.size) w100.heap.size) v (ct.spA.reverse.map CT.ess)) [_] F E21 rfl (by decide) (Spine27 (fun k => k < w100.heap.size) ct y176 w100 (fun k hk => hk) (hct.bel hB9) okt) ?_
   rintro _ w102 a ⟨yh, v1, rfl, hh0, hrs0⟩ B103 F
   have sB103 := B103.size
   have hB := bt hB B103
   have hB9 := bt hB9 B103
   have m23 := m23.old B103
   have m24 := m24.old B103
   obtain ⟨ch, hch0, heh⟩ := hh0
   obtain ⟨cs, hcs0, hes⟩ := hrs0.ck
   have hch := RC.mono (B := fun k => k < w102.heap.size) (fun k hk => hk.2) hch0.valid
   have hcs := RK.mono (B := fun k => k < w102.heap.size) (fun k hk => hk.2) (RK.valid hcs0)
   clear hch0 hcs0 hrs0
   obtain ⟨a1, c1, hve, _⟩ := hcs.form
   subst hve
   have h1h := hch.one
   have hB14 := Below.refl w102.heap.size w102
   have sB14 := hB14.size
   refine F.mv rfl fun a F => F.vl (x_ext rfl rfl) fun a F => F.vl (x_ext rfl rfl) fun a F => ?_
   refine s_alloc F (by decide) zero27 fun w104 b25 a eb25 m25 B105 zb25 F => ?_
   have sB105 := B105.size
   have hB := bt hB B105
   have hB9 := bt hB9 B105
   have hB14 := bt hB14 B105
   have m23 := m23.old B105
   have m24 := m24.old B105
   refine s_putW F rfl rfl (size_wide wide27) m25 rfl h1h fun w108 m25 o109 => ?_
   have so109 := o109.size
   have hB := hB.trans (o109.below (by omega))
   have hB9 := hB9.trans (o109.below (by omega))
   have hB14 := hB14.trans (o109.below (by omega))
   have m23 := m23.only o109 (by omega)
   have m24 := m24.only o109 (by omega)
   refine F.sg rfl fun a F => ?_
   refine s_end (K27 _ _ ?_)
   refine wp_rs fun _ K28 => F.vl (x_ldW wide27 m24 rfl rfl) fun a F => ?_
   refine s_callR (R := fun u w' => ∃ y v, u = .tuple #[tv y, v] ∧ RC w' (AS (fun k => k < w108.heap.size) w108.heap.size) cu.spH y ∧ RK w' (AS (fun k => k < w108.heap.size) w108.heap.size) v cu.spA.reverse) [_] F E22 rfl (by decide) (rSpine28 (fun k => k < w108.heap.size) cu y179 w108 (fun k hk => hk) (hcu.bel hB9) oku) ?_
   rintro _ w110 a ⟨yk, v2, rfl, hk0, hls0⟩ B111 F
   have sB111 := B111.size
   have hB := bt hB B111
   have hB9 := bt hB9 B111
   have hB14 := bt hB14 B111
   have m23 := m23.old B111
   have m24 := m24.old B111
   have m25 := m25.old B111
   have hck := RC.mono (B := fun k => k < w110.heap.size) (fun k hk => hk.2) hk0.valid
   have hck2 := RK.mono (B := fun k => k < w110.heap.size) (fun k hk => hk.2) (RK.valid hls0)
   clear hk0 hls0
   obtain ⟨a2, c2, hve, _⟩ := hck2.form
   subst hve
   have h1k := hck.one
   have hB15 := Below.refl w110.heap.size w110
   have sB15 := hB15.size
   obtain ⟨heq1, heq2⟩ := spH_ess (het.trans heu.symm)
   have hes2 : cs.map CT.ess = cu.spA.reverse.map CT.ess := by rw [hes, List.map_reverse, heq2, ← List.map_reverse]
   have hlen : cs.length = cu.spA.reverse.length := by have h := congrArg List.length hes2; simpa using h
   obtain ⟨hfh, hfa⟩ := sp_fit (c := cu) (by rw [heu]; exact hfP)
   refine F.mv rfl fun a F => F.vl (x_ext rfl rfl) fun a F => F.vl (x_ext rfl rfl) fun a F => ?_
   refine s_alloc F (by decide) zero27 fun w112 b27 a eb27 m27 B113 zb27 F => ?_
   have sB113 := B113.size
   have hB := bt hB B113
   have hB9 := bt hB9 B113
   have hB14 := bt hB14 B113
   have hB15 := bt hB15 B113
   have m23 := m23.old B113
   have m24 := m24.old B113
   have m25 := m25.old B113
   refine s_putW F rfl rfl (size_wide wide27) m27 rfl h1k fun w116 m27 o117 => ?_
   have so117 := o117.size
   have hB := hB.trans (o117.below (by omega))
   have hB9 := hB9.trans (o117.below (by omega))
   have hB14 := hB14.trans (o117.below (by omega))
   have hB15 := hB15.trans (o117.below (by omega))
   have m23 := m23.only o117 (by omega)
   have m24 := m24.only o117 (by omega)
   have m25 := m25.only o117 (by omega)
   refine F.sg rfl fun a F => ?_
   refine s_end (K28 _ _ ?_)
   refine wp_seq_k fun _ K29 => ?_
   refine wp_rs fun _ K30 => F.mv rfl fun a F => F.vl (x_len Try.underlying25 rfl) fun a F => F.mv rfl fun a F => F.vl (x_len Try.underlying25 rfl) fun a F => F.vl (neqF (by omega) rfl rfl) fun a F => F.mv rfl fun a F => s_grd 204 F rfl rfl rfl <| F.vl (x_ldW wide27 m25 rfl rfl) fun a F => s_grd 204 F rfl rfl rfl <| F.vl (x_ldW wide27 m27 rfl rfl) fun a F => s_grd 204 F rfl rfl rfl ?_
   refine s_callB [_, _] F E17 rfl (by decide) (alike23L ch cu.spH yh yk w116 (hch.bel hB14) (hck.bel hB15) (by rw [heh, heq1]) (by rw [heh, heq1]; exact hfh)) fun w118 a B119 F => ?_
   have sB119 := B119.size
   have hB := bt hB B119
   have hB9 := bt hB9 B119
   have hB14 := bt hB14 B119
   have hB15 := bt hB15 B119
   have m23 := m23.old B119
   have m24 := m24.old B119
   refine s_grd 204 F rfl rfl rfl <| F.vl (x_not rfl) fun a F => F.vl (x_pick (b := false) rfl rfl) fun a F => F.mv rfl fun a F => s_grd 210 F rfl rfl rfl <| F.vl (x_ldW wide27 m23 rfl rfl) fun a F => s_grd 210 F rfl rfl rfl <| F.vl (x_ldW wide27 m24 rfl rfl) fun a F => s_grd 210 F rfl rfl rfl ?_
   refine s_callB [_, _] F E17 rfl (by decide) (alike23L ct cu y176 y179 w118 (hct.bel hB9) (hcu.bel hB9) (het.trans heu.symm) (by rw [het]; exact hfP)) fun w120 a B121 F => ?_
   have sB121 := B121.size
   have hB := bt hB B121
   have hB14 := bt hB14 B121
   have hB15 := bt hB15 B121
   refine s_grd 210 F rfl rfl rfl <| F.vl (x_not rfl) fun a F => F.vl (x_pick (b := false) rfl rfl) fun a F => ?_
   refine s_end (K30 _ _ ?_)
   refine wp_if F rfl ?_
   refine wp_skip (K29 _ _ ?_)
   refine wp_seq_k fun _ K31 => ?_
   skip
   refine wp_rs fun _ K32 => F.mv rfl fun a F => F.vl (x_len Try.underlying25 rfl) fun a F => F.mv rfl fun a F => ?_
   refine s_end (K32 _ _ ?_)
   refine wp_block ?_
   have hlb : cs.length ≤ 1000000 := by have h := congrArg List.length hes; have h2 := CT.spA_len ct; have h3 := CT.spL_size ct; have h4 := okt.1; simp at h; omega
   refine wp_up cs.length (fun i a w => Below w0.heap.size w0 w ∧ Below w102.heap.size w102 w ∧ Below w110.heap.size w110 w ∧ Fs 233 a [(26, .slice a1 cs.length c1), (28, .slice a2 cu.spA.reverse.length c2), (217, .int .i64 (cs.length : Int)), (218, .int .i64 (i : Int))]) ⟨hB, hB14, hB15, F.sub _ rfl⟩ ?_
   repeat clear F
   clear hB hB14 hB15
   rintro i a w hi ⟨hB, hB14, hB15, F⟩ K' hK'
   have sB := hB.size
   have sB14 := hB14.size
   have sB15 := hB15.size
   refine wp_rs fun _ K33 => F.vl (x_lss (b := decide (i < cs.length)) (decide_eq_decide.2 (by omega)) rfl rfl) fun a F => ?_
   refine s_end (K33 _ _ ?_)
   refine wp_seq_k fun _ K34 => ?_
   refine wp_iff F rfl (fun hc219 => ?_) (fun hc219 => ?_)
   ·
    obtain ⟨f8, o8, d8, y8, k8, hve, hyk8, hry8, hAb8, hbl8, hrow8⟩ := hcs.row (i := i) (by omega)
    cases hve
    obtain ⟨f9, o9, d9, y9, k9, hve, hyk9, hry9, hAb9, hbl9, hrow9⟩ := hck2.row (i := i) (by omega)
    cases hve
    have hpq : k8.ess = k9.ess := by have h1 := congrArg (·[i]?) hes2; rw [List.getElem?_map, List.getElem?_map, hyk8, hyk9] at h1; simpa using h1
    have hf9 : k9.ess.fit := hfa k9 (List.mem_reverse.1 (List.mem_of_getElem? hyk9))
    refine wp_skip (K34 _ _ ?_)
    refine wp_seq_k fun _ K35 => ?_
    refine wp_block ?_
    refine wp_rs fun _ K36 => F.mv rfl fun a F => F.sg rfl fun a F => ?_
    refine s_end (K36 _ _ ?_)
    refine dk2_seq (w.heap.size) (w.heap.size) (ops := regOps Try.f3 21) (N := 10) (by kernel_rfl) wide_orders (by kernel_rfl) fun w122 hw122 B123 hS K37 hK37 => ?_
    have zw122 : w122.heap.size = w.heap.size := by rw [hw122]
    have sB123 := B123.size
    have hB := bt hB B123
    have hB14 := bt hB14 B123
    have hB15 := bt hB15 B123
    have hB_d := hB
    have hB14_d := hB14
    have hB15_d := hB15
    refine F.dv 0 221 (.move (.tmp 26)) hS (fun W hW => x_move rfl) fun a F => F.dv 1 222 (.move (.tmp 29)) hS (fun W hW => x_move rfl) fun a F => F.dv 2 223 (.indexAddr 25 (.tmp 221) (.tmp 222)) hS (fun W hW => x_ixa rfl rfl (m_ixsK i Try.underlying25 el25.size rfl (by omega))) fun a F => F.dv 3 224 (.load 27 (.tmp 223)) hS (fun W hW => x_ldA wide27 (hrow8 _ ((hW.under hB14_d (by omega)).block _ hbl8)) rfl rfl) fun a F => F.dv 4 225 (.move (.tmp 28)) hS (fun W hW => x_move rfl) fun a F => F.dv 5 226 (.move (.tmp 29)) hS (fun W hW => x_move rfl) fun a F => F.dv 6 227 (.indexAddr 25 (.tmp 225) (.tmp 226)) hS (fun W hW => x_ixa rfl rfl (m_ixsK i Try.underlying25 el25.size rfl (by omega))) fun a F => F.dv 7 228 (.load 27 (.tmp 227)) hS (fun W hW => x_ldA wide27 (hrow9 _ ((hW.under hB15_d (by omega)).block _ hbl9)) rfl rfl) fun a F => ?_
    refine d1 8 (some 229) (.call (.mk (.value (.func 17)) #[(.tmp 224), (.tmp 228)] #[27, 27])) fun ty pos af => ?_
    refine s_callB [_, _] F E17 rfl (by decide) (alike23L k8 k9 y8 y9 w122 (hry8.bel hB14) (hry9.bel hB15) hpq (by rw [hpq]; exact hf9)) fun w124 a B125 F => ?_
    have sB125 := B125.size
    have hB := bt hB B125
    have hB14 := bt hB14 B125
    have hB15 := bt hB15 B125
    have hS := hS.below B125
    refine s_end ⟨hS, ?_⟩
    refine F.dv 9 230 (.unOp .not 4 (.tmp 229)) hS (fun W hW => x_not rfl) fun a F => ?_
    refine d_end (by kernel_rfl) (hK37 _ _ ?_)
    refine wp_if F rfl ?_
    refine wp_skip (K35 _ _ ?_)
    refine wp_region_lit ?_
    refine F.vl (x_addn (i + 1) (by omega) (by omega) rfl rfl) fun a F => F.mv rfl fun a F => ?_
    refine s_end (hK' _ _ (by omega) ⟨hB, hB14, hB15, F.sub _ rfl⟩)
   ·
    refine wp_exit (K31 _ _ ?_)
    refine wp_rs fun _ K38 => ?_
    refine s_callB [] F E9 rfl (by decide) (awake15 w) fun w126 a B127 F => ?_
    have sB127 := B127.size
    have hB := bt hB B127
    refine F.sg rfl fun a F => ?_
    refine s_end (K38 _ _ ?_)
    refine wp_ret (res_slot F rfl rfl ⟨rfl, hB⟩)
end Go.Proofs.Ytmkjhdiepkpdoaa

namespace Go.Proofs.Ytmkjhdiepkpdoaa
open Go.RowKit Go.Shelf Go.ChangeShapes Go.WideShapes
set_option linter.unusedVariables false
set_option linter.unusedSimpArgs false
section
variable {α : Type} {encA : α → List Value} {k : Nat}
theorem gfm_len : ∀ (xs : List α), (∀ x ∈ xs, (encA x).length = k) → (xs.flatMap encA).length = xs.length * k
 | [], _ => by simp
 | x :: xs, h => by
  rw [List.flatMap_cons, List.length_append, h x (by simp), gfm_len xs (fun y hy => h y (by simp [hy])), List.length_cons, Nat.succ_mul, Nat.add_comm]
theorem gfm_inv (hk : 0 < k) : ∀ (xs : List α) (j : Nat) (u : Value), (∀ x ∈ xs, (encA x).length = k) → (xs.flatMap encA)[j]? = some u → ∃ x, xs[j / k]? = some x ∧ (encA x)[j % k]? = some u
 | [], j, u, _, h => by simp at h
 | c :: xs, j, u, h32, h => by
  have h0 : (encA c).length = k := h32 c (by simp)
  rw [List.flatMap_cons] at h
  by_cases hj : j < k
  ·
   rw [List.getElem?_append_left (by omega)] at h
   exact ⟨c, by rw [Nat.div_eq_of_lt hj]; rfl, by rw [Nat.mod_eq_of_lt hj]; exact h⟩
  ·
   rw [List.getElem?_append_right (by omega), h0] at h
   obtain ⟨x, h1, h2⟩ := gfm_inv hk xs (j - k) u (fun y hy => h32 y (by simp [hy])) h
   have hkj : k ≤ j := by omega
   have e1 : j / k = (j - k) / k + 1 := Nat.div_eq_sub_div hk hkj
   have e2 : j % k = (j - k) % k := Nat.mod_eq_sub_mod hkj
   exact ⟨x, by rw [e1]; simpa using h1, by rw [e2]; exact h2⟩
end
end Go.Proofs.Ytmkjhdiepkpdoaa

namespace Go.Proofs.Ytmkjhdiepkpdoaa
open Go.RowKit Go.Shelf Go.ChangeShapes Go.WideShapes
set_option maxRecDepth 100000
set_option linter.unusedVariables false
set_option linter.unusedSimpArgs false
theorem cells24 : Try.prog.cellsOf 24 = 3 := by kernel_rfl
theorem cells3 : Try.prog.cellsOf 3 = 1 := by kernel_rfl
theorem cells22 : Try.prog.cellsOf 22 = 1 := by kernel_rfl
theorem okWide_str {P : Program} {w : World} {r : Reach} {base : Nat} {t : TypeId} {v : Value} {fs : Array Field} (ht : P.underlying t = some (.struct fs)) (h : Value.okWide P w r base t v) : ∃ cs, v = .agg cs ∧ cs.size = P.cellsOf t := by
 unfold Value.okWide at h
 rw [ht] at h
 obtain ⟨cs, h1, h2, _⟩ := h
 exact ⟨cs, h1, h2⟩
section
variable {H : Type} {enc : TypeId × Value → H} {w : World} {base : Nat} {spare : Nat → Bool} {held : Bool}
/-- A slice of levels, out of what its elements tell. -/
theorem open_lrow {n : Nat} {cs : List Value} {x : DataW H × List MemPlace} (good : C3 → Prop) (tell : ∀ m, m < n → ∀ cs' y, DataW.trod enc Try.prog w base spare held m 24 cs' = some y → ∃ c, good c ∧ cs' = lc c)
    (h : DataW.trod enc Try.prog w base spare held n 22 cs = some x) : ∃ a len cap, cs = [.slice a len cap] ∧ ∃ xs : List C3, Rd w (.slice a len cap) 3 xs.length (xs.flatMap lc) ∧ (∀ x ∈ xs, good x) ∧ xs.length ≤ 9223372036854775807 := by
  rcases DataW.trod_slice Try.underlying22 h with ⟨rfl, _⟩ | ⟨a, len, cap, elems, rest, m, hfu, rfl, _, _, hl, hm, hlen, hel, _, _⟩
  · exact ⟨none, 0, 0, rfl, [], Rd.nil _ _, by simp, by simp⟩
  · refine ⟨some a, len, cap, rfl, ?_⟩
    have one : ∀ i, i < len → ∃ d : C3, good d ∧ ∀ (j : Nat) u, (lc d)[j]? = some u → w.cell? ((a.add (i * 3)).add j) = some u := by
      intro i hil
      have h1 := hel i hil
      rw [List.getElem?_eq_getElem (by omega)] at h1
      obtain ⟨cs', hc', ht'⟩ := Option.bind_eq_some_iff.1 h1
      rw [cells24] at hc'
      obtain ⟨_, hcl, hat⟩ := World.cells?_some hc'
      obtain ⟨d, hd, rfl⟩ := tell m (by omega) _ _ ht'
      refine ⟨d, hd, fun j u hj => ?_⟩
      have hjl : j < 3 := (List.getElem?_eq_some_iff.1 hj).1
      have h2 := hat j (by omega)
      rw [h2, hj]
    have hml : len ≤ 9223372036854775807 := by unfold maxLen at hm; omega
    by_cases h0 : len = 0
    · subst h0
      exact ⟨[], ⟨by simp, .inl ⟨_, _, rfl, rfl, fun h => by cases h⟩⟩, by simp, by simp⟩
    · obtain ⟨b, off, spot⟩ := a
      obtain ⟨d0, hd0, hx0⟩ := one 0 (by omega)
      have hc0 := hx0 0 _ (List.getElem?_eq_getElem (show 0 < (lc d0).length by simp [lc]))
      have hspot : spot = none := by simpa [Addr.add] using World.cell?_spot hc0
      subst hspot
      have hb : b < w.heap.size := by
        have := World.block_lt_of_cell? w _ hc0
        rwa [addr_addn, addr_addn] at this
      have all : ∀ q, q ≤ len → ∃ ds : List C3, ds.length = q ∧ (∀ d ∈ ds, good d) ∧ ∀ i d, ds[i]? = some d → ∀ (j : Nat) u, (lc d)[j]? = some u → w.cell? ⟨b, off + i * 3 + j, none⟩ = some u := by
        intro q
        induction q with
        | zero => exact fun _ => ⟨[], rfl, by simp, by simp⟩
        | succ q ih =>
          intro hq
          obtain ⟨ds, h1, h2, h3⟩ := ih (by omega)
          obtain ⟨d, hd, hx⟩ := one q (by omega)
          refine ⟨ds ++ [d], by simp [h1], fun e he => ?_, fun i e he j u hj => ?_⟩
          · rcases List.mem_append.1 he with he | he
            · exact h2 e he
            · simp at he; subst he; exact hd
          · rw [List.getElem?_append] at he
            split at he
            · exact h3 i e he j u hj
            · next hge =>
              have hik : i = q := by
                have := (List.getElem?_eq_some_iff.1 he).1
                simp at this
                omega
              subst hik
              simp [h1] at he
              subst he
              have := hx j u hj
              rwa [addr_addn, addr_addn] at this
      obtain ⟨ds, h1, h2, h3⟩ := all len (Nat.le_refl _)
      refine ⟨ds, ⟨gfm_len (k := 3) ds (fun d hd => by simp [lc]), .inr ⟨b, off, cap, by rw [h1], by omega, hb, fun j u hj => ?_⟩⟩, h2, by omega⟩
      obtain ⟨d, e1, e2⟩ := gfm_inv (k := 3) (by decide) ds j u (fun d hd => by simp [lc]) hj
      have := h3 _ d e1 _ u e2
      have hdm := Nat.div_add_mod j 3
      rwa [show off + j / 3 * 3 + j % 3 = off + j by omega] at this
theorem rl_list {W : World} : ∀ (xs : List C3), (∀ x ∈ xs, ∃ l, RL W x l) → ∃ ls : List Lv, xs.length = ls.length ∧ ∀ (i : Nat) x l, xs[i]? = some x → ls[i]? = some l → RL W x l
 | [], _ => ⟨[], rfl, fun i x l h => by simp at h⟩
 | x :: xs, h => by
  obtain ⟨l, hl⟩ := h x (by simp)
  obtain ⟨ls, h1, h2⟩ := rl_list xs (fun y hy => h y (by simp [hy]))
  refine ⟨l :: ls, by simp [h1], fun i y m e1 e2 => ?_⟩
  cases i with
  | zero => simp at e1 e2; subst e1 e2; exact hl
  | succ i => exact h2 i y m (by simpa using e1) (by simpa using e2)
theorem open_lvl : ∀ (fuel : Nat) (cs : List Value) (x : DataW H × List MemPlace), DataW.trod enc Try.prog w base spare held fuel 24 cs = some x → ∃ c, (∃ l, RL w c l) ∧ cs = lc c := by
 intro fuel
 induction fuel using Nat.strongRecOn with
 | ind fuel ih =>
  intro cs x h
  obtain ⟨xs, n, hfu, _, hl, hlen, hf⟩ := DataW.trod_struct Try.underlying24 h
  rw [cells24] at hl
  have h0 : DataW.trod enc Try.prog w base spare held n 3 ((cs.drop 0).take (Try.prog.cellsOf 3)) = xs[0]? := hf 0 _ rfl
  have h1 : DataW.trod enc Try.prog w base spare held n 3 ((cs.drop 1).take (Try.prog.cellsOf 3)) = xs[1]? := hf 1 _ rfl
  have h2 : DataW.trod enc Try.prog w base spare held n 22 ((cs.drop 2).take (Try.prog.cellsOf 22)) = xs[2]? := hf 2 _ rfl
  rw [cells3] at h0 h1
  rw [cells22] at h2
  rw [List.getElem?_eq_getElem (by rw [hlen]; decide)] at h0 h1 h2
  match cs, hl with
  | [c0, c1, c2], _ =>
   simp only [List.drop_zero, List.drop_succ_cons, List.take_succ_cons, List.take_zero] at h0 h1 h2
   obtain ⟨z0, e0, _, _⟩ := DataW.trod_int Try.underlying3 h0
   obtain ⟨z1, e1, _, _⟩ := DataW.trod_int Try.underlying3 h1
   obtain ⟨a, len, cap, e2, ys, hR, hg, _⟩ := open_lrow (fun c => ∃ l, RL w c l) (fun m hm cs' y hy => ih m (by omega) cs' y hy) h2
   simp only [List.cons.injEq, and_true] at e0 e1 e2
   subst e0 e1 e2
   obtain ⟨ls, g1, g2⟩ := rl_list ys hg
   exact ⟨(z0, z1, .slice a len cap), ⟨.mk z0 z1 ls, .mk hR g1 g2⟩, rfl⟩
theorem open_lvls {fuel : Nat} {x : DataW H × List MemPlace} {a0 : Option Addr} {len0 cap0 : Nat} (h : DataW.trod enc Try.prog w base spare held fuel 22 [.slice a0 len0 cap0] = some x) : ∃ xs : List C3, Rd w (.slice a0 len0 cap0) 3 xs.length (xs.flatMap lc) ∧ (∃ ls : List Lv, xs.length = ls.length ∧ ∀ (i : Nat) x l, xs[i]? = some x → ls[i]? = some l → RL w x l) ∧ xs.length ≤ 9223372036854775807 := by
 obtain ⟨a, len, cap, e, xs, h1, h2, h3⟩ := open_lrow (fun c => ∃ l, RL w c l) (fun m _ cs' y hy => open_lvl m cs' y hy) h
 simp only [List.cons.injEq, and_true] at e
 cases e
 exact ⟨xs, h1, rl_list xs h2, h3⟩
end
end Go.Proofs.Ytmkjhdiepkpdoaa

namespace Go.Proofs.Ytmkjhdiepkpdoaa
open Go.RowKit Go.Shelf Go.ChangeShapes Go.WideShapes
set_option maxRecDepth 100000
set_option linter.unusedVariables false
set_option linter.unusedSimpArgs false
theorem cells27 : Try.prog.cellsOf 27 = 8 := by kernel_rfl
theorem cells25 : Try.prog.cellsOf 25 = 1 := by kernel_rfl
theorem cells9 : Try.prog.cellsOf 9 = 1 := by kernel_rfl
theorem in64_of {n : Int} (h : (Lit.int .i64 n).wf = true) : in64 n := by
 have h2 : IntKind.i64.min = -9223372036854775808 := by decide
 have h3 : IntKind.i64.max = 9223372036854775807 := by decide
 simp only [Lit.wf, h2, h3, Bool.and_eq_true, decide_eq_true_eq] at h
 unfold in64
 omega
section
variable {H : Type} {enc : TypeId × Value → H} {w : World} {base : Nat} {spare : Nat → Bool} {held : Bool}
/-- A slice of terms, out of what its elements tell. -/
theorem open_trow {n : Nat} {cs : List Value} {x : DataW H × List MemPlace} (good : C8 → Prop) (tell : ∀ m, m < n → ∀ cs' y, DataW.trod enc Try.prog w base spare held m 27 cs' = some y → ∃ c, good c ∧ cs' = tc c)
    (h : DataW.trod enc Try.prog w base spare held n 25 cs = some x) : ∃ a len cap, cs = [.slice a len cap] ∧ ∃ xs : List C8, Rd w (.slice a len cap) 8 xs.length (xs.flatMap tc) ∧ (∀ x ∈ xs, good x) ∧ xs.length ≤ 9223372036854775807 := by
  rcases DataW.trod_slice Try.underlying25 h with ⟨rfl, _⟩ | ⟨a, len, cap, elems, rest, m, hfu, rfl, _, _, hl, hm, hlen, hel, _, _⟩
  · exact ⟨none, 0, 0, rfl, [], Rd.nil _ _, by simp, by simp⟩
  · refine ⟨some a, len, cap, rfl, ?_⟩
    have one : ∀ i, i < len → ∃ d : C8, good d ∧ ∀ (j : Nat) u, (tc d)[j]? = some u → w.cell? ((a.add (i * 8)).add j) = some u := by
      intro i hil
      have h1 := hel i hil
      rw [List.getElem?_eq_getElem (by omega)] at h1
      obtain ⟨cs', hc', ht'⟩ := Option.bind_eq_some_iff.1 h1
      rw [cells27] at hc'
      obtain ⟨_, hcl, hat⟩ := World.cells?_some hc'
      obtain ⟨d, hd, rfl⟩ := tell m (by omega) _ _ ht'
      refine ⟨d, hd, fun j u hj => ?_⟩
      have hjl : j < 8 := (List.getElem?_eq_some_iff.1 hj).1
      have h2 := hat j (by omega)
      rw [h2, hj]
    have hml : len ≤ 9223372036854775807 := by unfold maxLen at hm; omega
    by_cases h0 : len = 0
    · subst h0
      exact ⟨[], ⟨by simp, .inl ⟨_, _, rfl, rfl, fun h => by cases h⟩⟩, by simp, by simp⟩
    · obtain ⟨b, off, spot⟩ := a
      obtain ⟨d0, hd0, hx0⟩ := one 0 (by omega)
      have hc0 := hx0 0 _ (List.getElem?_eq_getElem (show 0 < (tc d0).length by simp [tc]))
      have hspot : spot = none := by simpa [Addr.add] using World.cell?_spot hc0
      subst hspot
      have hb : b < w.heap.size := by
        have := World.block_lt_of_cell? w _ hc0
        rwa [addr_addn, addr_addn] at this
      have all : ∀ q, q ≤ len → ∃ ds : List C8, ds.length = q ∧ (∀ d ∈ ds, good d) ∧ ∀ i d, ds[i]? = some d → ∀ (j : Nat) u, (tc d)[j]? = some u → w.cell? ⟨b, off + i * 8 + j, none⟩ = some u := by
        intro q
        induction q with
        | zero => exact fun _ => ⟨[], rfl, by simp, by simp⟩
        | succ q ih =>
          intro hq
          obtain ⟨ds, h1, h2, h3⟩ := ih (by omega)
          obtain ⟨d, hd, hx⟩ := one q (by omega)
          refine ⟨ds ++ [d], by simp [h1], fun e he => ?_, fun i e he j u hj => ?_⟩
          · rcases List.mem_append.1 he with he | he
            · exact h2 e he
            · simp at he; subst he; exact hd
          · rw [List.getElem?_append] at he
            split at he
            · exact h3 i e he j u hj
            · next hge =>
              have hik : i = q := by
                have := (List.getElem?_eq_some_iff.1 he).1
                simp at this
                omega
              subst hik
              simp [h1] at he
              subst he
              have := hx j u hj
              rwa [addr_addn, addr_addn] at this
      obtain ⟨ds, h1, h2, h3⟩ := all len (Nat.le_refl _)
      refine ⟨ds, ⟨gfm_len (k := 8) ds (fun d hd => by simp [tc]), .inr ⟨b, off, cap, by rw [h1], by omega, hb, fun j u hj => ?_⟩⟩, h2, by omega⟩
      obtain ⟨d, e1, e2⟩ := gfm_inv (k := 8) (by decide) ds j u (fun d hd => by simp [tc]) hj
      have := h3 _ d e1 _ u e2
      have hdm := Nat.div_add_mod j 8
      rwa [show off + j / 8 * 8 + j % 8 = off + j by omega] at this
theorem rc_list {W : World} {A : Nat → Prop} : ∀ (xs : List C8), (∀ x ∈ xs, ∃ c, RC W A c x ∧ c.fit) → ∃ cs : List CT, xs.length = cs.length ∧ (∀ (i : Nat) x c, xs[i]? = some x → cs[i]? = some c → RC W A c x) ∧ ∀ c ∈ cs, c.fit
 | [], _ => ⟨[], rfl, (fun i x l h => by simp at h), fun c h => by cases h⟩
 | x :: xs, h => by
  obtain ⟨c, hc, hf⟩ := h x (by simp)
  obtain ⟨cs, h1, h2, h3⟩ := rc_list xs (fun y hy => h y (by simp [hy]))
  refine ⟨c :: cs, by simp [h1], fun i y m e1 e2 => ?_, fun d hd => ?_⟩
  ·
   cases i with
   | zero => simp at e1 e2; subst e1 e2; exact hc
   | succ i => exact h2 i y m (by simpa using e1) (by simpa using e2)
  ·
   rcases List.mem_cons.1 hd with rfl | hd
   ·
    exact hf
   ·
    exact h3 d hd
theorem rc_make {W : World} {A : Nat → Prop} {k n : Int} {s : ByteArray} {l : C3} {lv : Lv} {vl vt : Value} {ls : List Lv} {ys : List C8} (hn : in64 n) (hs : s.size ≤ 9223372036854775807) (hll : ls.length ≤ 9223372036854775807) (hl : RLn W A l lv) (hls : RVn W A vl ls) (ht : Rn W A vt 8 ys.length (ys.flatMap tc)) (hy : ∀ y ∈ ys, ∃ c, RC W A c y ∧ c.fit) : ∃ c, RC W A c ⟨k, n, s, l, vl, vt⟩ ∧ c.fit := by
 have hok : Ok W A ⟨k, n, s, l, vl, vt⟩ := ⟨⟨_, hl⟩, _, hls⟩
 by_cases h1 : k = 1
 ·
  exact ⟨.var n ys.length, ⟨h1, rfl, hn, ⟨_, ht⟩, hok⟩, trivial⟩
 by_cases h2 : k = 2
 ·
  exact ⟨.sort lv ys.length, ⟨h2, hl, ⟨_, ht⟩, hok⟩, trivial⟩
 by_cases h7 : k = 7
 ·
  exact ⟨.cst s ls ys.length, ⟨h7, rfl, hls, ⟨_, ht⟩, hok⟩, ⟨hs, hll⟩⟩
 by_cases ho : arT k < 0 ∨ (ys.length : Int) < arT k
 ·
  exact ⟨.odd k ys.length, ⟨rfl, ho, ⟨_, ht⟩, hok⟩, trivial⟩
 by_cases h5 : k = 5
 ·
  match ys, ht, hy, ho with
  | [], _, _, ho => subst h5; simp [arT] at ho
  | [_], _, _, ho => subst h5; simp [arT] at ho
  | [_, _], _, _, ho => subst h5; simp [arT] at ho
  | y :: z :: u :: rest, ht, hy, _ =>
   obtain ⟨a, ha, fa⟩ := hy y (by simp)
   obtain ⟨b, hb, fb⟩ := hy z (by simp)
   obtain ⟨c, hc, fc⟩ := hy u (by simp)
   exact ⟨.lt a b c rest.length, ⟨h5, ⟨y, z, u, rest.flatMap tc, by simpa using ht, ha, hb, hc⟩, hok⟩, ⟨fa, fb, fc⟩⟩
 ·
  have hk : k = 3 ∨ k = 4 ∨ k = 6 := by unfold arT at ho; omega
  have h2' : arT k = 2 := by unfold arT; omega
  match ys, ht, hy, ho with
  | [], _, _, ho => simp [h2'] at ho
  | [_], _, _, ho => simp [h2'] at ho
  | y :: z :: rest, ht, hy, _ =>
   obtain ⟨a, ha, fa⟩ := hy y (by simp)
   obtain ⟨b, hb, fb⟩ := hy z (by simp)
   exact ⟨.two k a b rest.length, ⟨rfl, hk, ⟨y, z, rest.flatMap tc, by simpa using ht, ha, hb⟩, hok⟩, ⟨fa, fb⟩⟩
theorem open_trm : ∀ (fuel : Nat) (cs : List Value) (x : DataW H × List MemPlace), DataW.trod enc Try.prog w base spare held fuel 27 cs = some x → ∃ c8, (∃ c, RC w (fun k => k < w.heap.size) c c8 ∧ c.fit) ∧ cs = tc c8 := by
 intro fuel
 induction fuel using Nat.strongRecOn with
 | ind fuel ih =>
  intro cs x h
  obtain ⟨xs, n, hfu, _, hl, hlen, hf⟩ := DataW.trod_struct Try.underlying27 h
  rw [cells27] at hl
  have h0 : DataW.trod enc Try.prog w base spare held n 3 ((cs.drop 0).take (Try.prog.cellsOf 3)) = xs[0]? := hf 0 _ rfl
  have h1 : DataW.trod enc Try.prog w base spare held n 3 ((cs.drop 1).take (Try.prog.cellsOf 3)) = xs[1]? := hf 1 _ rfl
  have h2 : DataW.trod enc Try.prog w base spare held n 9 ((cs.drop 2).take (Try.prog.cellsOf 9)) = xs[2]? := hf 2 _ rfl
  have h3 : DataW.trod enc Try.prog w base spare held n 24 ((cs.drop 3).take (Try.prog.cellsOf 24)) = xs[3]? := hf 3 _ rfl
  have h4 : DataW.trod enc Try.prog w base spare held n 22 ((cs.drop 6).take (Try.prog.cellsOf 22)) = xs[4]? := hf 4 _ rfl
  have h5 : DataW.trod enc Try.prog w base spare held n 25 ((cs.drop 7).take (Try.prog.cellsOf 25)) = xs[5]? := hf 5 _ rfl
  rw [cells3] at h0 h1
  rw [cells9] at h2
  rw [cells24] at h3
  rw [cells22] at h4
  rw [cells25] at h5
  rw [List.getElem?_eq_getElem (by rw [hlen]; decide)] at h0 h1 h2 h3 h4 h5
  match cs, hl with
  | [c0, c1, c2, c3, c4, c5, c6, c7], _ =>
   simp only [List.drop_zero, List.drop_succ_cons, List.take_succ_cons, List.take_zero] at h0 h1 h2 h3 h4 h5
   obtain ⟨z0, e0, _, _⟩ := DataW.trod_int Try.underlying3 h0
   obtain ⟨z1, e1, _, hw1⟩ := DataW.trod_int Try.underlying3 h1
   obtain ⟨s, e2, _, hs⟩ := DataW.trod_string Try.underlying9 h2
   obtain ⟨l, ⟨lv, hlv⟩, e3⟩ := open_lvl _ _ _ h3
   obtain ⟨a, len, cap, e4, lrs, hlR, hlg, hll⟩ := open_lrow (fun c => ∃ l, RL w c l) (fun m hm cs' y hy => open_lvl m cs' y hy) h4
   obtain ⟨a', len', cap', e5, ys, hR, hg, _⟩ := open_trow (fun c8 => ∃ c, RC w (fun k => k < w.heap.size) c c8 ∧ c.fit) (fun m hm cs' y hy => ih m (by omega) cs' y hy) h5
   obtain ⟨ls, g1, g2⟩ := rl_list lrs hlg
   simp only [List.cons.injEq, and_true, lc] at e0 e1 e2 e3 e4 e5
   obtain ⟨e3, e3', e3''⟩ := e3
   subst e0 e1 e2 e3 e3' e3'' e4 e5
   refine ⟨⟨z0, z1, s, l, .slice a len cap, .slice a' len' cap'⟩, rc_make (in64_of hw1) (by unfold maxLen at hs; omega) (by omega) hlv.n ⟨lrs, hlR.n, g1, fun i x l e1 e2 => (g2 i x l e1 e2).n⟩ hR.n hg, rfl⟩
theorem open_trms {fuel : Nat} {x : DataW H × List MemPlace} {a0 : Option Addr} {len0 cap0 : Nat} (h : DataW.trod enc Try.prog w base spare held fuel 25 [.slice a0 len0 cap0] = some x) : ∃ cs : List CT, RK w (fun k => k < w.heap.size) (.slice a0 len0 cap0) cs ∧ (∀ c ∈ cs, c.fit) ∧ cs.length ≤ 9223372036854775807 := by
 obtain ⟨a, len, cap, e, xs, h1, h2, h3⟩ := open_trow (fun c8 => ∃ c, RC w (fun k => k < w.heap.size) c c8 ∧ c.fit) (fun m _ cs' y hy => open_trm m cs' y hy) h
 simp only [List.cons.injEq, and_true] at e
 cases e
 obtain ⟨cs, g1, g2, g3⟩ := rc_list xs h2
 exact ⟨cs, ⟨xs, h1.n, g1, g2⟩, g3, by omega⟩
theorem open_lvn {fuel : Nat} {x : DataW H × List MemPlace} {a0 : Option Addr} {len0 cap0 : Nat} (h : DataW.trod enc Try.prog w base spare held fuel 22 [.slice a0 len0 cap0] = some x) : ∃ ls : List Lv, RVn w (fun k => k < w.heap.size) (.slice a0 len0 cap0) ls ∧ ls.length ≤ 9223372036854775807 := by
 obtain ⟨xs, h1, ⟨ls, h2, h3⟩, h4⟩ := open_lvls h
 exact ⟨ls, ⟨xs, h1.n, h2, fun i x l e1 e2 => (h3 i x l e1 e2).n⟩, by omega⟩
end
end Go.Proofs.Ytmkjhdiepkpdoaa
