/- Same. -/
import Derived.Test.YtbhhbfdoadecgaaLev6
import Derived.Test.YtbhhbfdoadecgaaTerm5
namespace Go.Proofs.Ytbhhbfdoadecgaa
set_option maxRecDepth 100000
set_option maxHeartbeats 1600000
open Go.RowKit Go.Shelf
set_option linter.unusedVariables false
set_option linter.unusedSimpArgs false
def eqO : Option SL → Option SL → Prop
 | some s, some t => eqF s t
 | _, _ => False
def eqOs (os ps : List (Option SL)) : Prop := os.length = ps.length ∧ ∀ (i : Nat) o p, os[i]? = some o → ps[i]? = some p → eqO o p
def sameP : PT → PT → Prop
 | .var n, .var m => n = m
 | .sort o, .sort p => eqO o p
 | .cst s os, .cst t ps => s = t ∧ eqOs os ps
 | .odd k, .odd j => k = j
 | .two k a b, .two j c d => k = j ∧ sameP a c ∧ sameP b d
 | .lt a b c, .lt d e f => sameP a d ∧ sameP b e ∧ sameP c f
 | _, _ => False
def PT.fit : PT → Prop
 | .cst _ os => os.length ≤ 9223372036854775807
 | .two _ a b => a.fit ∧ b.fit
 | .lt a b c => a.fit ∧ b.fit ∧ c.fit
 | _ => True
theorem CT.fit_ess : ∀ {c : CT}, c.fit → c.ess.fit
 | .two _ a b _, h => ⟨CT.fit_ess h.1, CT.fit_ess h.2⟩
 | .lt a b c _, h => ⟨CT.fit_ess h.1, CT.fit_ess h.2.1, CT.fit_ess h.2.2⟩
 | .cst s ls _, h => by simp only [CT.ess, PT.fit, List.length_map]; exact h.2
 | .var .., _ => trivial
 | .sort .., _ => trivial
 | .odd .., _ => trivial
theorem PT.fit_kid {c k : CT} {i : Nat} (h : c.ess.fit) (hk : c.kids[i]? = some k) : k.ess.fit := by
 cases c with
 | two _ a b _ =>
  rcases i with _ | _ | i
  ·
   simp [CT.kids] at hk; subst hk; exact h.1
  ·
   simp [CT.kids] at hk; subst hk; exact h.2
  ·
   simp [CT.kids] at hk
 | lt a b c _ =>
  rcases i with _ | _ | _ | i
  ·
   simp [CT.kids] at hk; subst hk; exact h.1
  ·
   simp [CT.kids] at hk; subst hk; exact h.2.1
  ·
   simp [CT.kids] at hk; subst hk; exact h.2.2
  ·
   simp [CT.kids] at hk
 | _ => simp [CT.kids] at hk
theorem TB.iff {w0 : World} {x y : C3} {la lb : Lv} {b : Bool} (h : TB w0 x y la lb eqF b) (hx : RL w0 x la) (hy : RL w0 y lb) : b = true ↔ eqO (slO la) (slO lb) := by
 by_cases ha : sndL la
 ·
  by_cases hb : sndL lb
  ·
   obtain ⟨s, h1, h2⟩ := sound_sl hx ha
   obtain ⟨t, h3, h4⟩ := sound_sl hy hb
   rw [h.2 s t h1 h3 h2 h4, slO_of hx h1 h2, slO_of hy h3 h4, decide_eq_true_iff]
   rfl
  ·
   rw [h.1 (fun h' => hb h'.2), (slO_none hy).2 hb]
   cases slO la <;> simp [eqO]
 ·
  rw [h.1 (fun h' => ha h'.1), (slO_none hx).2 ha]
  simp [eqO]
theorem same_rest {W : World} {A : Nat → Prop} : ∀ {c d : CT} {x y : C8}, RC W A c x → RC W A d y → x.k = y.k → (x.k ≠ 1 ∧ x.k ≠ 2 ∧ x.k ≠ 7) → (sameP c.ess d.ess ↔ c.kids.length = d.kids.length ∧ ∀ (i : Nat) a b, c.kids[i]? = some a → d.kids[i]? = some b → sameP a.ess b.ess)
 | .var .., _, x, y, h, h2, hk, h3 => by have := h.1; omega
 | .sort .., _, x, y, h, h2, hk, h3 => by have := h.1; omega
 | .cst .., _, x, y, h, h2, hk, h3 => by have := h.1; omega
 | _, .var .., x, y, h, h2, hk, h3 => by have := h2.1; omega
 | _, .sort .., x, y, h, h2, hk, h3 => by have := h2.1; omega
 | _, .cst .., x, y, h, h2, hk, h3 => by have := h2.1; omega
 | .odd k m, .odd j n, x, y, h, h2, hk, h3 => by
  have := h.1
  have := h2.1
  simp [CT.ess, sameP, CT.kids]
  omega
 | .odd k m, .two .., x, y, h, h2, hk, h3 => by simp [CT.ess, sameP, CT.kids]
 | .odd k m, .lt .., x, y, h, h2, hk, h3 => by simp [CT.ess, sameP, CT.kids]
 | .two .., .odd .., x, y, h, h2, hk, h3 => by simp [CT.ess, sameP, CT.kids]
 | .lt .., .odd .., x, y, h, h2, hk, h3 => by simp [CT.ess, sameP, CT.kids]
 | .two .., .lt .., x, y, h, h2, hk, h3 => by simp [CT.ess, sameP, CT.kids]
 | .lt .., .two .., x, y, h, h2, hk, h3 => by simp [CT.ess, sameP, CT.kids]
 | .two k a b m, .two j c d n, x, y, h, h2, hk, h3 => by
  have e1 := h.1
  have e2 := h2.1
  simp only [CT.ess, sameP, CT.kids]
  constructor
  ·
   rintro ⟨_, g1, g2⟩
   refine ⟨rfl, fun i p q e3 e4 => ?_⟩
   rcases i with _ | _ | i
   ·
    simp at e3 e4; subst e3 e4; exact g1
   ·
    simp at e3 e4; subst e3 e4; exact g2
   ·
    simp at e3
  ·
   rintro ⟨_, g⟩
   exact ⟨by omega, g 0 a c rfl rfl, g 1 b d rfl rfl⟩
 | .lt a b c m, .lt d e f n, x, y, h, h2, hk, h3 => by
  simp only [CT.ess, sameP, CT.kids]
  constructor
  ·
   rintro ⟨g1, g2, g3⟩
   refine ⟨rfl, fun i p q e3 e4 => ?_⟩
   rcases i with _ | _ | _ | i
   ·
    simp at e3 e4; subst e3 e4; exact g1
   ·
    simp at e3 e4; subst e3 e4; exact g2
   ·
    simp at e3 e4; subst e3 e4; exact g3
   ·
    simp at e3
  ·
   rintro ⟨_, g⟩
   exact ⟨g 0 a d rfl rfl, g 1 b e rfl rfl, g 2 c f rfl rfl⟩
theorem eqL116 (cs ds : List Lv) (v u : Value) (w0 : World) (hV : RVn w0 (fun k => k < w0.heap.size) v cs) (hU : RVn w0 (fun k => k < w0.heap.size) u ds) (hlen : cs.length ≤ 9223372036854775807) : Calls Try.prog 115 #[v, u, .func (.func 114) #[] #[]] w0 fun e w' => ∃ z, e = .returned z ∧ (∃ b, z = .bool b ∧ (b = true ↔ cs.length = ds.length ∧ ∀ (i : Nat) p q, cs[i]? = some p → ds[i]? = some q → eqO (slO p) (slO q))) ∧ Below w0.heap.size w0 w' := by
 obtain ⟨av, cv, hve, _⟩ := hV.form
 subst hve
 obtain ⟨au, cu, hue, _⟩ := hU.form
 subst hue
 have hB := Below.refl w0.heap.size w0
 have sB := hB.size
 refine calls_fs 32 [(0, .slice av cs.length cv), (1, .slice au ds.length cu), (2, .func (.func 114) #[] #[])] Try.func115 rfl rfl rfl rfl rfl fun a F => ?_
 refine wp_rs fun _ K1 => F.sg rfl fun a F => ?_
 refine s_end (K1 _ _ ?_)
 refine wp_seq_k fun _ K2 => ?_
 rcases (show cs.length ≠ ds.length ∨ cs.length = ds.length by omega) with hk1 | hk1
 ·
  skip
  refine wp_rs fun _ K4 => F.mv rfl fun a F => F.vl (x_len Try.underlying22 rfl) fun a F => F.mv rfl fun a F => F.vl (x_len Try.underlying22 rfl) fun a F => F.vl (neqT (by omega) rfl rfl) fun a F => ?_
  refine s_end (K4 _ _ ?_)
  refine wp_if F rfl ?_
  refine wp_rs fun _ K5 => F.sg rfl fun a F => ?_
  refine s_end (K5 _ _ ?_)
  refine wp_ret (then_ret (res_slot F rfl rfl ⟨_, rfl, ⟨false, rfl, fun h => absurd h (by decide), fun h => absurd h.1 hk1⟩, hB⟩))
 ·
  skip
  refine wp_rs fun _ K6 => F.mv rfl fun a F => F.vl (x_len Try.underlying22 rfl) fun a F => F.mv rfl fun a F => F.vl (x_len Try.underlying22 rfl) fun a F => F.vl (neqF (by omega) rfl rfl) fun a F => ?_
  refine s_end (K6 _ _ ?_)
  refine wp_if F rfl ?_
  refine wp_skip (K2 _ _ ?_)
  refine wp_seq_k fun _ K7 => ?_
  refine wp_rs fun _ K8 => F.mv rfl fun a F => F.vl (x_len Try.underlying22 rfl) fun a F => F.mv rfl fun a F => ?_
  refine s_end (K8 _ _ ?_)
  refine wp_block ?_
  refine wp_up cs.length (fun i a w => (∀ (j : Nat) p q, j < i → cs[j]? = some p → ds[j]? = some q → eqO (slO p) (slO q)) ∧ Below w0.heap.size w0 w ∧ Fs 32 a [(1, .slice au ds.length cu), (2, .func (.func 114) #[] #[]), (15, .slice av cs.length cv), (16, .int .i64 (cs.length : Int)), (17, .int .i64 (i : Int))]) ⟨(fun j p q h => absurd h (by omega)), hB, F.sub _ rfl⟩ ?_
  clear F hB
  rintro i a w hi ⟨hok, hB, F⟩ K' hK'
  have sB := hB.size
  refine wp_rs fun _ K9 => F.vl (x_lss (b := decide (i < cs.length)) (decide_eq_decide.2 (by omega)) rfl rfl) fun a F => ?_
  refine s_end (K9 _ _ ?_)
  refine wp_seq_k fun _ K10 => ?_
  refine wp_iff F rfl (fun hc18 => ?_) (fun hc18 => ?_)
  ·
   obtain ⟨b9, off9, c9, x, p, hve, hp, hrx, hAb, hbl, hrow⟩ := hV.row (i := i) (by omega)
   obtain ⟨b8, off8, c8, y, q, hue, hq, hry, hAb8, hbl8, hrow8⟩ := hU.row (i := i) (by omega)
   cases hve
   cases hue
   refine wp_skip (K10 _ _ ?_)
   refine wp_seq_k fun _ K11 => ?_
   refine wp_block ?_
   refine wp_rs fun _ K12 => F.mv rfl fun a F => F.vl (x_ixa rfl rfl (m_ixsK i Try.underlying22 el22.size rfl (by omega))) fun a F => F.vl (x_ldA wide24 (hrow _ (hB.block _ hbl)) rfl rfl) fun a F => ?_
   refine s_alloc F (by decide) zero24 fun w2 b8 a eb8 m8 B3 zb8 F => ?_
   have sB3 := B3.size
   have hB := bt hB B3
   refine F.sg rfl fun a F => ?_
   refine s_putW F rfl rfl (size_wide wide24) m8 rfl (one_lc (RLn.rl hrx).one1) fun w6 m8 o7 => ?_
   have so7 := o7.size
   have hB := hB.trans (o7.below (by omega))
   refine s_end (K12 _ _ ?_)
   refine wp_rs fun _ K13 => F.mv rfl fun a F => F.mv rfl fun a F => F.vl (x_ixa rfl rfl (m_ixsK i Try.underlying22 el22.size rfl (by omega))) fun a F => F.vl (x_ldA wide24 (hrow8 _ (hB.block _ hbl8)) rfl rfl) fun a F => ?_
   refine s_alloc F (by decide) zero24 fun w8 b9 a eb9 m9 B9 zb9 F => ?_
   have sB9 := B9.size
   have hB := bt hB B9
   have m8 := m8.old B9
   refine s_putW F rfl rfl (size_wide wide24) m9 rfl (one_lc (RLn.rl hry).one1) fun w12 m9 o13 => ?_
   have so13 := o13.size
   have hB := hB.trans (o13.below (by omega))
   have m8 := m8.only o13 (by omega)
   refine s_end (K13 _ _ ?_)
   refine wp_rs fun _ K14 => F.mv rfl fun a F => F.vl (x_ldW wide24 m8 rfl rfl) fun a F => F.vl (x_ldW wide24 m9 rfl rfl) fun a F => ?_
   refine s_callC (R := fun v w' => (∃ b, v = .bool b ∧ (b = true ↔ eqO (slO p) (slO q))) ∧ Below w12.heap.size w12 w') (lb := []) F [_, _] rfl E114 rfl (by decide) ((Equal23 x y p q w12 (hrx.keep hB.size (fun k hk _ => hB.block k hk)).rl (hry.keep hB.size (fun k hk _ => hB.block k hk)).rl).mono fun e w' ⟨v, h1, ⟨b, h2, h3⟩, h4⟩ => ⟨v, h1, ⟨b, h2, h3.iff (hrx.keep hB.size (fun k hk _ => hB.block k hk)).rl (hry.keep hB.size (fun k hk _ => hB.block k hk)).rl⟩, h4⟩) ?_
   rintro _ w14 a ⟨⟨b29, rfl, h29⟩, B15⟩ F
   have sB15 := B15.size
   have hB := bt hB B15
   refine F.vl (x_not rfl) fun a F => ?_
   refine s_end (K14 _ _ ?_)
   refine wp_ifb F rfl (fun hc30 => ?_) (fun hc30 => ?_)
   ·
    have hn29 : ¬ (eqO (slO p) (slO q)) := fun h => by have := h29.2 h; subst this; simp at hc30
    refine wp_rs fun _ K15 => F.sg rfl fun a F => ?_
    refine s_end (K15 _ _ ?_)
    refine wp_ret (inb_ret (then_ret (then_ret (inb_ret (then_ret (res_slot F rfl rfl ⟨_, rfl, ⟨false, rfl, fun h => absurd h (by decide), fun h => (hn29 (h.2 i p q hp hq)).elim⟩, hB⟩))))))
   ·
    obtain rfl : b29 = true := by simpa using hc30
    have h30 := h29.1 rfl
    refine wp_skip (K11 _ _ ?_)
    refine wp_region_lit ?_
    refine F.vl (x_addn (i + 1) (by omega) (by omega) rfl rfl) fun a F => F.mv rfl fun a F => ?_
    refine s_end (hK' _ _ (by omega) ⟨(fun j p' q' hj e1 e2 => by rcases Nat.lt_or_ge j i with h | h; (· exact hok j p' q' h e1 e2); (· obtain rfl : j = i := (by omega); rw [hp] at e1; rw [hq] at e2; cases e1; cases e2; exact h30)), hB, F.sub _ rfl⟩)
  ·
   obtain rfl : i = cs.length := by omega
   refine wp_exit (K7 _ _ ?_)
   refine wp_rs fun _ K16 => F.sg rfl fun a F => ?_
   refine s_end (K16 _ _ ?_)
   refine wp_ret (res_slot F rfl rfl ⟨_, rfl, ⟨true, rfl, fun _ => ⟨hk1, fun j p q e1 e2 => hok j p q (List.getElem?_eq_some_iff.1 e1).1 e1 e2⟩, fun _ => rfl⟩, hB⟩)
theorem eqT117 (cs ds : List CT) (v u : Value) (w0 : World) (hV : RK w0 (fun k => k < w0.heap.size) v cs) (hU : RK w0 (fun k => k < w0.heap.size) u ds) (hlen : cs.length ≤ 9223372036854775807) (HS : ∀ (p q : CT) (x y : C8) (w : World) (i : Nat), cs[i]? = some p → ds[i]? = some q → RC w (fun k => k < w.heap.size) p x → RC w (fun k => k < w.heap.size) q y → Calls Try.prog 69 #[tv x, tv y] w fun e w' => ∃ z, e = .returned z ∧ (∃ b, z = .bool b ∧ (b = true ↔ sameP p.ess q.ess)) ∧ Below w.heap.size w w') : Calls Try.prog 116 #[v, u, .func (.func 69) #[] #[]] w0 fun e w' => ∃ z, e = .returned z ∧ (∃ b, z = .bool b ∧ (b = true ↔ cs.length = ds.length ∧ ∀ (i : Nat) p q, cs[i]? = some p → ds[i]? = some q → sameP p.ess q.ess)) ∧ Below w0.heap.size w0 w' := by
 obtain ⟨av, cv, hve, _⟩ := hV.form
 subst hve
 obtain ⟨au, cu, hue, _⟩ := hU.form
 subst hue
 have hB := Below.refl w0.heap.size w0
 have sB := hB.size
 refine calls_fs 32 [(0, .slice av cs.length cv), (1, .slice au ds.length cu), (2, .func (.func 69) #[] #[])] Try.func116 rfl rfl rfl rfl rfl fun a F => ?_
 refine wp_rs fun _ K1 => F.sg rfl fun a F => ?_
 refine s_end (K1 _ _ ?_)
 refine wp_seq_k fun _ K2 => ?_
 rcases (show cs.length ≠ ds.length ∨ cs.length = ds.length by omega) with hk1 | hk1
 ·
  skip
  refine wp_rs fun _ K4 => F.mv rfl fun a F => F.vl (x_len Try.underlying25 rfl) fun a F => F.mv rfl fun a F => F.vl (x_len Try.underlying25 rfl) fun a F => F.vl (neqT (by omega) rfl rfl) fun a F => ?_
  refine s_end (K4 _ _ ?_)
  refine wp_if F rfl ?_
  refine wp_rs fun _ K5 => F.sg rfl fun a F => ?_
  refine s_end (K5 _ _ ?_)
  refine wp_ret (then_ret (res_slot F rfl rfl ⟨_, rfl, ⟨false, rfl, fun h => absurd h (by decide), fun h => absurd h.1 hk1⟩, hB⟩))
 ·
  skip
  refine wp_rs fun _ K6 => F.mv rfl fun a F => F.vl (x_len Try.underlying25 rfl) fun a F => F.mv rfl fun a F => F.vl (x_len Try.underlying25 rfl) fun a F => F.vl (neqF (by omega) rfl rfl) fun a F => ?_
  refine s_end (K6 _ _ ?_)
  refine wp_if F rfl ?_
  refine wp_skip (K2 _ _ ?_)
  refine wp_seq_k fun _ K7 => ?_
  refine wp_rs fun _ K8 => F.mv rfl fun a F => F.vl (x_len Try.underlying25 rfl) fun a F => F.mv rfl fun a F => ?_
  refine s_end (K8 _ _ ?_)
  refine wp_block ?_
  refine wp_up cs.length (fun i a w => (∀ (j : Nat) p q, j < i → cs[j]? = some p → ds[j]? = some q → sameP p.ess q.ess) ∧ Below w0.heap.size w0 w ∧ Fs 32 a [(1, .slice au ds.length cu), (2, .func (.func 69) #[] #[]), (15, .slice av cs.length cv), (16, .int .i64 (cs.length : Int)), (17, .int .i64 (i : Int))]) ⟨(fun j p q h => absurd h (by omega)), hB, F.sub _ rfl⟩ ?_
  clear F hB
  rintro i a w hi ⟨hok, hB, F⟩ K' hK'
  have sB := hB.size
  refine wp_rs fun _ K9 => F.vl (x_lss (b := decide (i < cs.length)) (decide_eq_decide.2 (by omega)) rfl rfl) fun a F => ?_
  refine s_end (K9 _ _ ?_)
  refine wp_seq_k fun _ K10 => ?_
  refine wp_iff F rfl (fun hc18 => ?_) (fun hc18 => ?_)
  ·
   obtain ⟨b9, off9, c9, x, p, hve, hp, hrx, hAb, hbl, hrow⟩ := hV.row (i := i) (by omega)
   obtain ⟨b8, off8, c8, y, q, hue, hq, hry, hAb8, hbl8, hrow8⟩ := hU.row (i := i) (by omega)
   cases hve
   cases hue
   refine wp_skip (K10 _ _ ?_)
   refine wp_seq_k fun _ K11 => ?_
   refine wp_block ?_
   refine wp_rs fun _ K12 => F.mv rfl fun a F => F.vl (x_ixa rfl rfl (m_ixsK i Try.underlying25 el25.size rfl (by omega))) fun a F => F.vl (x_ldA wide27 (hrow _ (hB.block _ hbl)) rfl rfl) fun a F => ?_
   refine s_alloc F (by decide) zero27 fun w2 b8 a eb8 m8 B3 zb8 F => ?_
   have sB3 := B3.size
   have hB := bt hB B3
   refine F.sg rfl fun a F => ?_
   refine s_putW F rfl rfl (size_wide wide27) m8 rfl hrx.one fun w6 m8 o7 => ?_
   have so7 := o7.size
   have hB := hB.trans (o7.below (by omega))
   refine s_end (K12 _ _ ?_)
   refine wp_rs fun _ K13 => F.mv rfl fun a F => F.mv rfl fun a F => F.vl (x_ixa rfl rfl (m_ixsK i Try.underlying25 el25.size rfl (by omega))) fun a F => F.vl (x_ldA wide27 (hrow8 _ (hB.block _ hbl8)) rfl rfl) fun a F => ?_
   refine s_alloc F (by decide) zero27 fun w8 b9 a eb9 m9 B9 zb9 F => ?_
   have sB9 := B9.size
   have hB := bt hB B9
   have m8 := m8.old B9
   refine s_putW F rfl rfl (size_wide wide27) m9 rfl hry.one fun w12 m9 o13 => ?_
   have so13 := o13.size
   have hB := hB.trans (o13.below (by omega))
   have m8 := m8.only o13 (by omega)
   refine s_end (K13 _ _ ?_)
   refine wp_rs fun _ K14 => F.mv rfl fun a F => F.vl (x_ldW wide27 m8 rfl rfl) fun a F => F.vl (x_ldW wide27 m9 rfl rfl) fun a F => ?_
   refine s_callC (R := fun v w' => (∃ b, v = .bool b ∧ (b = true ↔ sameP p.ess q.ess)) ∧ Below w12.heap.size w12 w') (lb := []) F [_, _] rfl E69 rfl (by decide) (HS p q x y w12 i hp hq (hrx.bel hB) (hry.bel hB)) ?_
   rintro _ w14 a ⟨⟨b29, rfl, h29⟩, B15⟩ F
   have sB15 := B15.size
   have hB := bt hB B15
   refine F.vl (x_not rfl) fun a F => ?_
   refine s_end (K14 _ _ ?_)
   refine wp_ifb F rfl (fun hc30 => ?_) (fun hc30 => ?_)
   ·
    have hn29 : ¬ (sameP p.ess q.ess) := fun h => by have := h29.2 h; subst this; simp at hc30
    refine wp_rs fun _ K15 => F.sg rfl fun a F => ?_
    refine s_end (K15 _ _ ?_)
    refine wp_ret (inb_ret (then_ret (then_ret (inb_ret (then_ret (res_slot F rfl rfl ⟨_, rfl, ⟨false, rfl, fun h => absurd h (by decide), fun h => (hn29 (h.2 i p q hp hq)).elim⟩, hB⟩))))))
   ·
    obtain rfl : b29 = true := by simpa using hc30
    have h30 := h29.1 rfl
    refine wp_skip (K11 _ _ ?_)
    refine wp_region_lit ?_
    refine F.vl (x_addn (i + 1) (by omega) (by omega) rfl rfl) fun a F => F.mv rfl fun a F => ?_
    refine s_end (hK' _ _ (by omega) ⟨(fun j p' q' hj e1 e2 => by rcases Nat.lt_or_ge j i with h | h; (· exact hok j p' q' h e1 e2); (· obtain rfl : j = i := (by omega); rw [hp] at e1; rw [hq] at e2; cases e1; cases e2; exact h30)), hB, F.sub _ rfl⟩)
  ·
   obtain rfl : i = cs.length := by omega
   refine wp_exit (K7 _ _ ?_)
   refine wp_rs fun _ K16 => F.sg rfl fun a F => ?_
   refine s_end (K16 _ _ ?_)
   refine wp_ret (res_slot F rfl rfl ⟨_, rfl, ⟨true, rfl, fun _ => ⟨hk1, fun j p q e1 e2 => hok j p q (List.getElem?_eq_some_iff.1 e1).1 e1 e2⟩, fun _ => rfl⟩, hB⟩)
theorem kd_same {W : World} {A : Nat → Prop} {c d : CT} {x y : C8} (hx : RC W A c x) (hy : RC W A d y) (h : sameP c.ess d.ess) : x.k = y.k := by
 rw [hx.kd, hy.kd]
 cases c <;> cases d <;> simp only [CT.ess, sameP, CT.kd] at h ⊢ <;> first | exact h.elim | exact h.1 | exact h
theorem same81 : ∀ (N : Nat) (c d : CT) (x y : C8) (w0 : World), c.size < N → RC w0 (fun k => k < w0.heap.size) c x → RC w0 (fun k => k < w0.heap.size) d y → c.ess.fit → Calls Try.prog 69 #[tv x, tv y] w0 fun e w' => ∃ z, e = .returned z ∧ (∃ b, z = .bool b ∧ (b = true ↔ sameP c.ess d.ess)) ∧ Below w0.heap.size w0 w' := by
 intro N
 induction N with
 | zero => intro c d x y w0 h; omega
 | succ N ih =>
 intro c d x y w0 hN hx hy hfit
 have h3 := c.kids_le
 have hB := Below.refl w0.heap.size w0
 have sB := hB.size
 refine calls_fs 45 [(0, tv x), (1, tv y)] Try.func69 rfl rfl rfl rfl rfl fun a F => ?_
 refine wp_rs fun _ K1 => ?_
 refine s_box (tc x) F (by decide) rfl rfl fun w2 b2 a eb2 m2 B3 zb2 F => ?_
 have sB3 := B3.size
 have hB := bt hB B3
 refine s_box (tc y) F (by decide) rfl rfl fun w4 b3 a eb3 m3 B5 zb3 F => ?_
 have sB5 := B5.size
 have hB := bt hB B5
 have m2 := m2.old B5
 refine F.sg rfl fun a F => ?_
 refine s_end (K1 _ _ ?_)
 refine wp_seq_k fun _ K2 => ?_
 rcases (show x.k ≠ y.k ∨ (x.k = 1 ∧ x.k = y.k) ∨ (x.k = 2 ∧ x.k = y.k) ∨ (x.k = 7 ∧ x.k = y.k) ∨ ((x.k ≠ 1 ∧ x.k ≠ 2 ∧ x.k ≠ 7) ∧ x.k = y.k) by omega) with hk | hk | hk | hk | hk
 ·
  skip
  refine wp_rs fun _ K4 => F.vl (x_fa0 fa27_0 rfl) fun a F => F.ld m2 flat3 rfl rfl fun a F => F.vl (x_fa0 fa27_0 rfl) fun a F => F.ld m3 flat3 rfl rfl fun a F => F.vl (neqT (by omega) rfl rfl) fun a F => ?_
  refine s_end (K4 _ _ ?_)
  refine wp_if F rfl ?_
  refine wp_rs fun _ K5 => F.sg rfl fun a F => ?_
  refine s_end (K5 _ _ ?_)
  refine wp_ret (then_ret (res_slot F rfl rfl ⟨_, rfl, ⟨false, rfl, fun h => absurd h (by decide), fun h => (hk (kd_same hx hy h)).elim⟩, hB⟩))
 ·
  skip
  refine wp_rs fun _ K6 => F.vl (x_fa0 fa27_0 rfl) fun a F => F.ld m2 flat3 rfl rfl fun a F => F.vl (x_fa0 fa27_0 rfl) fun a F => F.ld m3 flat3 rfl rfl fun a F => F.vl (neqF (by omega) rfl rfl) fun a F => ?_
  refine s_end (K6 _ _ ?_)
  refine wp_if F rfl ?_
  refine wp_skip (K2 _ _ ?_)
  refine wp_seq_k fun _ K7 => ?_
  refine wp_rs fun _ K8 => F.vl (x_fa0 fa27_0 rfl) fun a F => F.ld m2 flat3 rfl rfl fun a F => ?_
  refine s_end (K8 _ _ ?_)
  refine wp_block ?_
  refine wp_rs fun _ K9 => F.vl (eqlT (by omega) rfl rfl) fun a F => F.sg rfl fun a F => ?_
  refine s_end (K9 _ _ ?_)
  refine wp_if F rfl ?_
  refine wp_rs fun _ K10 => F.vl (x_fa0 fa27_1 rfl) fun a F => F.ld m2 flat3 rfl rfl fun a F => F.vl (x_fa0 fa27_1 rfl) fun a F => F.ld m3 flat3 rfl rfl fun a F => F.vl (x_eql rfl rfl rfl) fun a F => F.sg rfl fun a F => ?_
  refine s_end (K10 _ _ ?_)
  obtain ⟨n1, m1_, rfl⟩ := hx.var_of hk.1
  obtain ⟨n2, m2_, rfl⟩ := hy.var_of (by omega)
  have hn1 : x.n = n1 := hx.2.1
  have hn2 : y.n = n2 := hy.2.1
  refine wp_ret (inb_ret (then_ret (res_slot F rfl rfl ⟨_, rfl, ⟨_, rfl, by rw [decide_eq_true_iff, hn1, hn2]; rfl⟩, hB⟩)))
 ·
  skip
  refine wp_rs fun _ K11 => F.vl (x_fa0 fa27_0 rfl) fun a F => F.ld m2 flat3 rfl rfl fun a F => F.vl (x_fa0 fa27_0 rfl) fun a F => F.ld m3 flat3 rfl rfl fun a F => F.vl (neqF (by omega) rfl rfl) fun a F => ?_
  refine s_end (K11 _ _ ?_)
  refine wp_if F rfl ?_
  refine wp_skip (K2 _ _ ?_)
  refine wp_seq_k fun _ K12 => ?_
  refine wp_rs fun _ K13 => F.vl (x_fa0 fa27_0 rfl) fun a F => F.ld m2 flat3 rfl rfl fun a F => ?_
  refine s_end (K13 _ _ ?_)
  refine wp_block ?_
  refine wp_rs fun _ K14 => F.vl (eqlF (by omega) rfl rfl) fun a F => F.sg rfl fun a F => ?_
  refine s_end (K14 _ _ ?_)
  refine wp_if F rfl ?_
  refine wp_rs fun _ K15 => F.vl (eqlT (by omega) rfl rfl) fun a F => F.sg rfl fun a F => ?_
  refine s_end (K15 _ _ ?_)
  refine wp_if F rfl ?_
  refine wp_rs fun _ K16 => F.vl (x_fa0 fa27_3 rfl) fun a F => F.vl (x_load rfl (m_loadP (vs := [_, _, _]) wide24 m2 rfl)) fun a F => F.vl (x_fa0 fa27_3 rfl) fun a F => F.vl (x_load rfl (m_loadP (vs := [_, _, _]) wide24 m3 rfl)) fun a F => ?_
  obtain ⟨l, q1, rfl⟩ := hx.sort_of hk.1
  obtain ⟨l2, q2, rfl⟩ := hy.sort_of (by omega)
  have hl1 : RLn w0 _ x.l l := hx.2.1
  have hl2 : RLn w0 _ y.l l2 := hy.2.1
  refine s_callR (R := fun v w' => ∃ b, v = .bool b ∧ (b = true ↔ eqO (slO l) (slO l2))) [_, _] F E114 rfl (by decide) ((Equal23 x.l y.l l l2 w4 (hl1.keep hB.size (fun k hk _ => hB.block k hk)).rl (hl2.keep hB.size (fun k hk _ => hB.block k hk)).rl).mono fun e w' ⟨v, h1, ⟨b, h2, h4⟩, h5⟩ => ⟨v, h1, ⟨b, h2, h4.iff (hl1.keep hB.size (fun k hk _ => hB.block k hk)).rl (hl2.keep hB.size (fun k hk _ => hB.block k hk)).rl⟩, h5⟩) ?_
  rintro _ w6 a ⟨b25, rfl, h25⟩ B7 F
  have sB7 := B7.size
  have hB := bt hB B7
  refine F.sg rfl fun a F => ?_
  refine s_end (K16 _ _ ?_)
  refine wp_ret (inb_ret (then_ret (res_slot F rfl rfl ⟨_, rfl, ⟨_, rfl, h25⟩, hB⟩)))
 ·
  skip
  refine wp_rs fun _ K17 => F.vl (x_fa0 fa27_0 rfl) fun a F => F.ld m2 flat3 rfl rfl fun a F => F.vl (x_fa0 fa27_0 rfl) fun a F => F.ld m3 flat3 rfl rfl fun a F => F.vl (neqF (by omega) rfl rfl) fun a F => ?_
  refine s_end (K17 _ _ ?_)
  refine wp_if F rfl ?_
  refine wp_skip (K2 _ _ ?_)
  refine wp_seq_k fun _ K18 => ?_
  refine wp_rs fun _ K19 => F.vl (x_fa0 fa27_0 rfl) fun a F => F.ld m2 flat3 rfl rfl fun a F => ?_
  refine s_end (K19 _ _ ?_)
  refine wp_block ?_
  refine wp_rs fun _ K20 => F.vl (eqlF (by omega) rfl rfl) fun a F => F.sg rfl fun a F => ?_
  refine s_end (K20 _ _ ?_)
  refine wp_if F rfl ?_
  refine wp_rs fun _ K21 => F.vl (eqlF (by omega) rfl rfl) fun a F => F.sg rfl fun a F => ?_
  refine s_end (K21 _ _ ?_)
  refine wp_if F rfl ?_
  refine wp_rs fun _ K22 => F.vl (eqlT (by omega) rfl rfl) fun a F => F.sg rfl fun a F => ?_
  refine s_end (K22 _ _ ?_)
  refine wp_if F rfl ?_
  by_cases hst : x.s = y.s
  ·
   obtain ⟨s1, ls1, m1_, rfl⟩ := hx.cst_of hk.1
   obtain ⟨s2, ls2, m2_, rfl⟩ := hy.cst_of (by omega)
   have hs1 : x.s = s1 := hx.2.1
   have hs2 : y.s = s2 := hy.2.1
   have hv1 : RVn w0 _ x.ls ls1 := hx.2.2.1
   have hv2 : RVn w0 _ y.ls ls2 := hy.2.2.1
   have hfl : ls1.length ≤ 9223372036854775807 := by have := hfit; simp only [CT.ess, PT.fit, List.length_map] at this; exact this
   refine wp_rs fun _ K24 => F.vl (x_fa0 fa27_2 rfl) fun a F => F.ld m2 flat9 rfl rfl fun a F => F.vl (x_fa0 fa27_2 rfl) fun a F => F.ld m3 flat9 rfl rfl fun a F => F.vl (x_eqS (b := true) (decide_eq_true hst) rfl rfl) fun a F => F.mv rfl fun a F => s_grd 33 F rfl rfl rfl <| F.vl (x_fa0 fa27_4 rfl) fun a F => s_grd 33 F rfl rfl rfl <| F.ld m2 flat22 rfl rfl fun a F => s_grd 33 F rfl rfl rfl <| F.vl (x_fa0 fa27_4 rfl) fun a F => s_grd 33 F rfl rfl rfl <| F.ld m3 flat22 rfl rfl fun a F => s_grd 33 F rfl rfl rfl ?_
   refine s_callR (R := fun v w' => ∃ b, v = .bool b ∧ (b = true ↔ ls1.length = ls2.length ∧ ∀ (i : Nat) p q, ls1[i]? = some p → ls2[i]? = some q → eqO (slO p) (slO q))) [_, _, _] F E115 rfl (by decide) (eqL116 ls1 ls2 _ _ w4 ((hv1.keep hB.size (fun k hk _ => hB.block k hk)).mono (fun k hk => by omega)) ((hv2.keep hB.size (fun k hk _ => hB.block k hk)).mono (fun k hk => by omega)) hfl) ?_
   rintro _ w8 a ⟨b38, rfl, h38⟩ B9 F
   have sB9 := B9.size
   have hB := bt hB B9
   refine F.vl (x_pick (b := true) rfl rfl) fun a F => F.sg rfl fun a F => ?_
   refine s_end (K24 _ _ ?_)
   refine wp_ret (inb_ret (then_ret (res_slot F rfl rfl ⟨_, rfl, ⟨_, rfl, by rw [h38]; simp only [CT.ess, sameP, eqOs, List.length_map]; exact ⟨fun h => ⟨by rw [← hs1, ← hs2]; exact hst, h.1, fun i o p e1 e2 => (by rw [List.getElem?_map] at e1 e2; obtain ⟨q1, e3, rfl⟩ := Option.map_eq_some_iff.1 e1; obtain ⟨q2, e4, rfl⟩ := Option.map_eq_some_iff.1 e2; exact h.2 i q1 q2 e3 e4)⟩, fun h => ⟨h.2.1, fun i p q e1 e2 => h.2.2 i (slO p) (slO q) (by rw [List.getElem?_map, e1]; rfl) (by rw [List.getElem?_map, e2]; rfl)⟩⟩⟩, hB⟩)))
  ·
   obtain ⟨s1, ls1, m1_, rfl⟩ := hx.cst_of hk.1
   obtain ⟨s2, ls2, m2_, rfl⟩ := hy.cst_of (by omega)
   have hs1 : x.s = s1 := hx.2.1
   have hs2 : y.s = s2 := hy.2.1
   have hv1 : RVn w0 _ x.ls ls1 := hx.2.2.1
   have hv2 : RVn w0 _ y.ls ls2 := hy.2.2.1
   have hfl : ls1.length ≤ 9223372036854775807 := by have := hfit; simp only [CT.ess, PT.fit, List.length_map] at this; exact this
   refine wp_rs fun _ K25 => F.vl (x_fa0 fa27_2 rfl) fun a F => F.ld m2 flat9 rfl rfl fun a F => F.vl (x_fa0 fa27_2 rfl) fun a F => F.ld m3 flat9 rfl rfl fun a F => F.vl (x_eqS (b := false) (decide_eq_false hst) rfl rfl) fun a F => F.mv rfl fun a F => s_grdn 33 F rfl rfl (by decide) fun a F => s_grdn 33 F rfl rfl (by decide) fun a F => s_grdn 33 F rfl rfl (by decide) fun a F => s_grdn 33 F rfl rfl (by decide) fun a F => s_grdn 33 F rfl rfl (by decide) fun a F => F.vl (x_pick (b := false) rfl rfl) fun a F => F.sg rfl fun a F => ?_
   refine s_end (K25 _ _ ?_)
   refine wp_ret (inb_ret (then_ret (res_slot F rfl rfl ⟨_, rfl, ⟨false, rfl, fun h => absurd h (by decide), fun h => (hst (by rw [hs1, hs2]; exact h.1)).elim⟩, hB⟩)))
 ·
  have hk : (x.k ≠ 1 ∧ x.k ≠ 2 ∧ x.k ≠ 7) ∧ x.k = y.k := hk
  refine wp_rs fun _ K26 => F.vl (x_fa0 fa27_0 rfl) fun a F => F.ld m2 flat3 rfl rfl fun a F => F.vl (x_fa0 fa27_0 rfl) fun a F => F.ld m3 flat3 rfl rfl fun a F => F.vl (neqF (by omega) rfl rfl) fun a F => ?_
  refine s_end (K26 _ _ ?_)
  refine wp_if F rfl ?_
  refine wp_skip (K2 _ _ ?_)
  refine wp_seq_k fun _ K27 => ?_
  refine wp_rs fun _ K28 => F.vl (x_fa0 fa27_0 rfl) fun a F => F.ld m2 flat3 rfl rfl fun a F => ?_
  refine s_end (K28 _ _ ?_)
  refine wp_block ?_
  refine wp_rs fun _ K29 => F.vl (eqlF (by omega) rfl rfl) fun a F => F.sg rfl fun a F => ?_
  refine s_end (K29 _ _ ?_)
  refine wp_if F rfl ?_
  refine wp_rs fun _ K30 => F.vl (eqlF (by omega) rfl rfl) fun a F => F.sg rfl fun a F => ?_
  refine s_end (K30 _ _ ?_)
  refine wp_if F rfl ?_
  refine wp_rs fun _ K31 => F.vl (eqlF (by omega) rfl rfl) fun a F => F.sg rfl fun a F => ?_
  refine s_end (K31 _ _ ?_)
  refine wp_if F rfl ?_
  refine wp_skip (K27 _ _ ?_)
  refine dk2_seq (w4.heap.size) (w4.heap.size) (ops := regOps Try.f69 10) (N := 6) (by kernel_rfl) wide_orders (by kernel_rfl) fun w10 hw10 B11 hS K32 hK32 => ?_
  have zw10 : w10.heap.size = w4.heap.size := by rw [hw10]
  have sB11 := B11.size
  have hB := bt hB B11
  have m2 := m2.old B11
  have m3 := m3.old B11
  have m2_d := m2
  have m3_d := m3
  have hB_d := hB
  refine F.dv 0 40 (.load 27 (.tmp 2)) hS (fun W hW => x_ldW wide27 (m2_d.k2 hW (by omega)) rfl rfl) fun a F => F.dv 2 42 (.load 27 (.tmp 3)) hS (fun W hW => x_ldW wide27 (m3_d.k2 hW (by omega)) rfl rfl) fun a F => ?_
  refine d1 1 (some 41) (.call (.mk (.value (.func 88)) #[(.tmp 40)] #[27])) fun ty pos af => ?_
  refine s_callR (R := fun v w' => RK w0 (fun k => k < w0.heap.size) v c.kids) [_] F E88 rfl (by decide) (kidsOf101 c x (fun k => k < w0.heap.size) w0 w10 hx) ?_
  rintro v41 w12 a hv41 B13 F
  have sB13 := B13.size
  have hB := bt hB B13
  have hS := hS.below B13
  refine s_end ⟨hS, ?_⟩
  refine d1 3 (some 43) (.call (.mk (.value (.func 88)) #[(.tmp 42)] #[27])) fun ty pos af => ?_
  refine s_callR (R := fun v w' => RK w0 (fun k => k < w0.heap.size) v d.kids) [_] F E88 rfl (by decide) (kidsOf101 d y (fun k => k < w0.heap.size) w0 w12 hy) ?_
  rintro v43 w14 a hv43 B15 F
  have sB15 := B15.size
  have hB := bt hB B15
  have hS := hS.below B15
  refine s_end ⟨hS, ?_⟩
  refine d1 4 (some 44) (.call (.mk (.value (.func 116)) #[(.tmp 41), (.tmp 43), (.func 69)] #[25, 25, 36])) fun ty pos af => ?_
  refine s_callR (R := fun v w' => ∃ b, v = .bool b ∧ (b = true ↔ c.kids.length = d.kids.length ∧ ∀ (i : Nat) p q, c.kids[i]? = some p → d.kids[i]? = some q → sameP p.ess q.ess)) [_, _, _] F E116 rfl (by decide) (eqT117 c.kids d.kids _ _ w14 ((hv41.keep hB.size (fun k hk _ => hB.block k hk)).mono (fun k hk => by omega)) ((hv43.keep hB.size (fun k hk _ => hB.block k hk)).mono (fun k hk => by omega)) (by omega) (fun p q x y w i hp hq hx2 hy2 => ih p q x y w (by have := CT.kid_size hp; omega) hx2 hy2 (PT.fit_kid hfit hp))) ?_
  rintro _ w16 a ⟨b44, rfl, h44⟩ B17 F
  have sB17 := B17.size
  have hB := bt hB B17
  have hS := hS.below B17
  refine s_end ⟨hS, ?_⟩
  refine F.dv 5 4 (.assign (.tmp 44)) hS (fun W hW => x_assign rfl) fun a F => ?_
  refine d_end (by kernel_rfl) (hK32 _ _ ?_)
  refine wp_ret (res_slot F rfl rfl ⟨_, rfl, ⟨_, rfl, by rw [h44, same_rest hx hy hk.2 hk.1]⟩, hB⟩)
theorem Same40 (c d : CT) (x y : C8) (w0 : World) (hx : RC w0 (fun k => k < w0.heap.size) c x) (hy : RC w0 (fun k => k < w0.heap.size) d y) (hfit : c.ess.fit) : Calls Try.prog 29 #[tv x, tv y] w0 fun e w' => ∃ z, e = .returned z ∧ (∃ b, z = .bool b ∧ (b = true ↔ c.ok ∧ d.ok ∧ sameP c.ess d.ess)) ∧ Below w0.heap.size w0 w' := by
 have hB := Below.refl w0.heap.size w0
 have sB := hB.size
 refine calls_fs 18 [(0, tv x), (1, tv y)] Try.func29 rfl rfl rfl rfl rfl fun a F => ?_
 refine wp_rs fun _ K1 => ?_
 refine s_box (tc x) F (by decide) rfl rfl fun w2 b2 a eb2 m2 B3 zb2 F => ?_
 have sB3 := B3.size
 have hB := bt hB B3
 refine s_box (tc y) F (by decide) rfl rfl fun w4 b3 a eb3 m3 B5 zb3 F => ?_
 have sB5 := B5.size
 have hB := bt hB B5
 have m2 := m2.old B5
 refine F.sg rfl fun a F => ?_
 refine s_end (K1 _ _ ?_)
 rcases (show ¬ c.ok ∨ (c.ok ∧ ¬ d.ok) ∨ (c.ok ∧ d.ok) by by_cases h : c.ok <;> by_cases h2 : d.ok <;> simp [h, h2]) with hk1 | ⟨hk1, hk2⟩ | ⟨hk1, hk2⟩
 ·
  skip
  refine wp_rs fun _ K3 => F.vl (x_ldW wide27 m2 rfl rfl) fun a F => ?_
  refine s_callB [_] F E52 rfl (by decide) ((isGreat66 c x w4 (hx.bel hB)).mono fun e w' h => ⟨by rw [h.1, decide_eq_true hk1], h.2⟩) fun w6 a B7 F => ?_
  have sB7 := B7.size
  have hB := bt hB B7
  refine F.vl (x_not rfl) fun a F => F.mv rfl fun a F => s_grdn 8 F rfl rfl (by decide) fun a F => s_grdn 8 F rfl rfl (by decide) fun a F => s_grdn 8 F rfl rfl (by decide) fun a F => F.vl (x_pick (b := false) rfl rfl) fun a F => F.mv rfl fun a F => s_grdn 13 F rfl rfl (by decide) fun a F => s_grdn 13 F rfl rfl (by decide) fun a F => s_grdn 13 F rfl rfl (by decide) fun a F => F.vl (x_pick (b := false) rfl rfl) fun a F => F.sg rfl fun a F => ?_
  refine s_end (K3 _ _ ?_)
  refine wp_ret (res_slot F rfl rfl ⟨_, rfl, ⟨false, rfl, fun h => absurd h (by decide), fun h => (hk1 h.1).elim⟩, hB⟩)
 ·
  skip
  refine wp_rs fun _ K4 => F.vl (x_ldW wide27 m2 rfl rfl) fun a F => ?_
  refine s_callB [_] F E52 rfl (by decide) ((isGreat66 c x w4 (hx.bel hB)).mono fun e w' h => ⟨by rw [h.1, decide_eq_false (fun h => h hk1)], h.2⟩) fun w8 a B9 F => ?_
  have sB9 := B9.size
  have hB := bt hB B9
  have m3 := m3.old B9
  refine F.vl (x_not rfl) fun a F => F.mv rfl fun a F => s_grd 8 F rfl rfl rfl <| F.vl (x_ldW wide27 m3 rfl rfl) fun a F => s_grd 8 F rfl rfl rfl ?_
  refine s_callB [_] F E52 rfl (by decide) ((isGreat66 d y w8 (hy.bel hB)).mono fun e w' h => ⟨by rw [h.1, decide_eq_true hk2], h.2⟩) fun w10 a B11 F => ?_
  have sB11 := B11.size
  have hB := bt hB B11
  refine s_grd 8 F rfl rfl rfl <| F.vl (x_not rfl) fun a F => F.vl (x_pick (b := true) rfl rfl) fun a F => F.mv rfl fun a F => s_grdn 13 F rfl rfl (by decide) fun a F => s_grdn 13 F rfl rfl (by decide) fun a F => s_grdn 13 F rfl rfl (by decide) fun a F => F.vl (x_pick (b := false) rfl rfl) fun a F => F.sg rfl fun a F => ?_
  refine s_end (K4 _ _ ?_)
  refine wp_ret (res_slot F rfl rfl ⟨_, rfl, ⟨false, rfl, fun h => absurd h (by decide), fun h => (hk2 h.2.1).elim⟩, hB⟩)
 ·
  skip
  refine wp_rs fun _ K5 => F.vl (x_ldW wide27 m2 rfl rfl) fun a F => ?_
  refine s_callB [_] F E52 rfl (by decide) ((isGreat66 c x w4 (hx.bel hB)).mono fun e w' h => ⟨by rw [h.1, decide_eq_false (fun h => h hk1)], h.2⟩) fun w12 a B13 F => ?_
  have sB13 := B13.size
  have hB := bt hB B13
  have m2 := m2.old B13
  have m3 := m3.old B13
  refine F.vl (x_not rfl) fun a F => F.mv rfl fun a F => s_grd 8 F rfl rfl rfl <| F.vl (x_ldW wide27 m3 rfl rfl) fun a F => s_grd 8 F rfl rfl rfl ?_
  refine s_callB [_] F E52 rfl (by decide) ((isGreat66 d y w12 (hy.bel hB)).mono fun e w' h => ⟨by rw [h.1, decide_eq_false (fun h => h hk2)], h.2⟩) fun w14 a B15 F => ?_
  have sB15 := B15.size
  have hB := bt hB B15
  have m2 := m2.old B15
  have m3 := m3.old B15
  refine s_grd 8 F rfl rfl rfl <| F.vl (x_not rfl) fun a F => F.vl (x_pick (b := true) rfl rfl) fun a F => F.mv rfl fun a F => s_grd 13 F rfl rfl rfl <| F.vl (x_ldW wide27 m2 rfl rfl) fun a F => s_grd 13 F rfl rfl rfl <| F.vl (x_ldW wide27 m3 rfl rfl) fun a F => s_grd 13 F rfl rfl rfl ?_
  refine s_callR (R := fun v w' => ∃ b, v = .bool b ∧ (b = true ↔ sameP c.ess d.ess)) [_, _] F E69 rfl (by decide) (same81 (c.size + 1) c d x y w14 (by omega) (hx.bel hB) (hy.bel hB) hfit) ?_
  rintro _ w16 a ⟨b16, rfl, h16⟩ B17 F
  have sB17 := B17.size
  have hB := bt hB B17
  refine F.vl (x_pick (b := true) rfl rfl) fun a F => F.sg rfl fun a F => ?_
  refine s_end (K5 _ _ ?_)
  refine wp_ret (res_slot F rfl rfl ⟨_, rfl, ⟨_, rfl, by rw [h16]; exact ⟨fun h => ⟨hk1, hk2, h⟩, fun h => h.2.2⟩⟩, hB⟩)
end Go.Proofs.Ytbhhbfdoadecgaa

namespace Go.Proofs.Ytbhhbfdoadecgaa
open Go.RowKit Go.Shelf
set_option linter.unusedVariables false
set_option linter.unusedSimpArgs false
theorem okL_snd {W : World} {x : C3} {l : Lv} (h : RL W x l) (hc : (chk 32 1048576 6 1 100 l).1 = 0) : sndL l := by
 obtain ⟨s, h1, h2, h3, h4⟩ := chk_sl (D := 32) (top := 1048576) (vars := 6) h 1 100 hc
 refine rs_snd h h1 ⟨by omega, by omega, ?_⟩
 have key : ∀ s : SL, s.nums 1048576 6 → s.nums 1099511627776 1001 := by
  intro s
  induction s with
  | num n => simp only [SL.nums]; omega
  | var n => simp only [SL.nums]; omega
  | succ n a ih => simp only [SL.nums]; exact fun ⟨a1, a2, a3⟩ => ⟨a1, by omega, ih a3⟩
  | mx a b ha hb => simp only [SL.nums]; exact fun ⟨a1, a2⟩ => ⟨ha a1, hb a2⟩
 exact key s h2
theorem eqO_self {W : World} {x : C3} {l : Lv} (h : RL W x l) (hc : (chk 32 1048576 6 1 100 l).1 = 0) : eqO (slO l) (slO l) := by
 obtain ⟨s, h1, h2⟩ := sound_sl h (okL_snd h hc)
 rw [slO_of h h1 h2]
 exact ⟨rfl, rfl⟩
theorem same_self {W : World} {A : Nat → Prop} : ∀ {c : CT} {x : C8}, RC W A c x → c.okV 6 → sameP c.ess c.ess
 | .var n m, x, h, ho => rfl
 | .sort l m, x, h, ho => eqO_self h.2.1.rl ho
 | .cst s ls m, x, h, ho => by
  obtain ⟨xs, g1, g2, g3⟩ := h.2.2.1
  refine ⟨rfl, rfl, fun i o p e1 e2 => ?_⟩
  rw [e1] at e2
  cases e2
  rw [List.getElem?_map] at e1
  obtain ⟨l, e3, rfl⟩ := Option.map_eq_some_iff.1 e1
  have hi := (List.getElem?_eq_some_iff.1 e3).1
  exact eqO_self (g3 i (xs[i]'(by omega)) l (List.getElem?_eq_getElem (by omega)) e3).rl (ho.2 l (List.mem_of_getElem? e3))
 | .odd k m, x, h, ho => ho.elim
 | .two k a b m, x, ⟨_, _, ⟨y, z, cs, _, ha, hb⟩, _⟩, ho => ⟨rfl, same_self ha ho.1, same_self hb ho.2⟩
 | .lt a b c m, x, ⟨_, ⟨y, z, u, cs, _, ha, hb, hc⟩, _⟩, ho => ⟨same_self ha ho.1, same_self hb ho.2.1, same_self hc ho.2.2⟩
section
variable {P : Program} {n : Nat} {l : List (Nat × Value)} {w : World}
end
end Go.Proofs.Ytbhhbfdoadecgaa

namespace Go.Proofs.Ytbhhbfdoadecgaa
open Go.RowKit Go.Shelf
set_option linter.unusedVariables false
set_option linter.unusedSimpArgs false
end Go.Proofs.Ytbhhbfdoadecgaa

namespace Go.Proofs.Ytbhhbfdoadecgaa
set_option maxRecDepth 100000
set_option maxHeartbeats 1600000
open Go.RowKit Go.Shelf
set_option linter.unusedVariables false
set_option linter.unusedSimpArgs false
noncomputable def allW (cs : List CT) : Bool := cs.all fun c => decide ((c.mayT 6 1 0).1 = 0)
theorem allW_at {cs : List CT} {i : Nat} {p : CT} (h : cs[i]? = some p) : allW (cs.drop i) = (decide ((p.mayT 6 1 0).1 = 0) && allW (cs.drop (i + 1))) := by
 have hi : i < cs.length := (List.getElem?_eq_some_iff.1 h).1
 have : cs[i] = p := (List.getElem?_eq_some_iff.1 h).2
 rw [← List.getElem_cons_drop hi, this]; rfl
theorem allW_mem {cs : List CT} (h : allW cs = true) : ∀ c ∈ cs, (c.mayT 6 1 0).1 = 0 := fun c hc => of_decide_eq_true (List.all_eq_true.1 h c hc)
theorem wf_of {W : World} {A : Nat → Prop} {c : CT} {x : C8} (hx : RC W A c x) (h : (c.mayT 6 1 0).1 = 0) : c.wf := by
 have hm := may_zero (vars := 6) c x 1 0 hx h
 exact ⟨hm.1, by have := hm.2.2.1; omega, by have := hm.2.2.2; omega⟩
theorem whole50e (cs : List CT) (v : Value) (w0 : World) (hV : RK w0 (fun k => k < w0.heap.size) v cs) (hlen : cs.length ≤ 1000000) (hfit : ∀ c ∈ cs, c.fit) : Calls Try.prog 27 #[v] w0 fun e w' => e = .returned (.bool (allW cs)) ∧ Below w0.heap.size w0 w' := by
 obtain ⟨av, cv, hve, _⟩ := hV.form
 subst hve
 have hB := Below.refl w0.heap.size w0
 have sB := hB.size
 refine calls_fs 15 [(0, .slice av cs.length cv)] Try.func27 rfl rfl rfl rfl rfl fun a F => ?_
 refine wp_rs fun _ K1 => F.sg rfl fun a F => ?_
 refine s_end (K1 _ _ ?_)
 refine wp_seq_k fun _ K2 => ?_
 refine wp_rs fun _ K3 => F.mv rfl fun a F => F.vl (x_len Try.underlying25 rfl) fun a F => F.mv rfl fun a F => ?_
 refine s_end (K3 _ _ ?_)
 refine wp_block ?_
 refine wp_up cs.length (fun i a w => allW cs = allW (cs.drop i) ∧ Below w0.heap.size w0 w ∧ Fs 15 a [(5, .slice av cs.length cv), (6, .int .i64 (cs.length : Int)), (7, .int .i64 (i : Int))]) ⟨rfl, hB, F.sub _ rfl⟩ ?_
 clear F hB
 rintro i a w hi ⟨hok, hB, F⟩ K' hK'
 have sB := hB.size
 refine wp_rs fun _ K4 => F.vl (x_lss (b := decide (i < cs.length)) (decide_eq_decide.2 (by omega)) rfl rfl) fun a F => ?_
 refine s_end (K4 _ _ ?_)
 refine wp_seq_k fun _ K5 => ?_
 refine wp_iff F rfl (fun hc8 => ?_) (fun hc8 => ?_)
 ·
  obtain ⟨b9, off9, c9, y, p, hve, hp, hry, hAb, hbl, hrow⟩ := hV.row (i := i) (by omega)
  cases hve
  have hdr := allW_at hp
  refine wp_skip (K5 _ _ ?_)
  refine wp_seq_k fun _ K6 => ?_
  refine wp_block ?_
  refine wp_rs fun _ K7 => F.vl (x_ixa rfl rfl (m_ixsK i Try.underlying25 el25.size rfl (by omega))) fun a F => F.vl (x_ldA wide27 (hrow _ (hB.block _ hbl)) rfl rfl) fun a F => ?_
  refine s_alloc F (by decide) zero27 fun w2 b4 a eb4 m4 B3 zb4 F => ?_
  have sB3 := B3.size
  have hB := bt hB B3
  refine s_putW F rfl rfl (size_wide wide27) m4 rfl hry.one fun w6 m4 o7 => ?_
  have so7 := o7.size
  have hB := hB.trans (o7.below (by omega))
  refine s_end (K7 _ _ ?_)
  refine wp_rs fun _ K8 => F.vl (x_ldW wide27 m4 rfl rfl) fun a F => ?_
  refine s_callB [_, _] F E67 rfl (by decide) (rMay30 6 p y w6 (hry.bel hB) (hfit p (List.mem_of_getElem? hp))) fun w8 a B9 F => ?_
  have sB9 := B9.size
  have hB := bt hB B9
  refine F.vl (x_neq rfl rfl rfl) fun a F => ?_
  refine s_end (K8 _ _ ?_)
  refine wp_iff F rfl (fun hc13 => ?_) (fun hc13 => ?_)
  ·
   rw [hdr, decide_eq_false hc13, Bool.false_and] at hok
   refine wp_rs fun _ K9 => F.sg rfl fun a F => ?_
   refine s_end (K9 _ _ ?_)
   refine wp_ret (inb_ret (then_ret (then_ret (inb_ret (then_ret (res_slot F rfl rfl ⟨by rw [hok]; try rfl, hB⟩))))))
  ·
   have hz : (p.mayT 6 1 0).1 = 0 := by omega
   rw [hdr, decide_eq_true hz, Bool.true_and] at hok
   refine wp_skip (K6 _ _ ?_)
   refine wp_region_lit ?_
   refine F.vl (x_addn (i + 1) (by omega) (by omega) rfl rfl) fun a F => F.mv rfl fun a F => ?_
   refine s_end (hK' _ _ (by omega) ⟨hok, hB, F.sub _ rfl⟩)
 ·
  obtain rfl : i = cs.length := by omega
  rw [List.drop_length] at hok
  refine wp_exit (K2 _ _ ?_)
  refine wp_rs fun _ K10 => F.sg rfl fun a F => ?_
  refine s_end (K10 _ _ ?_)
  refine wp_ret (res_slot F rfl rfl ⟨by rw [hok]; try rfl, hB⟩)
end Go.Proofs.Ytbhhbfdoadecgaa

namespace Go.Proofs.Ytbhhbfdoadecgaa
open Go.RowKit Go.Shelf
set_option linter.unusedVariables false
set_option linter.unusedSimpArgs false
/-- No universe and no constant. -/
def PT.plain : PT → Prop
 | .var _ => True
 | .two _ p q => p.plain ∧ q.plain
 | .lt p q r => p.plain ∧ q.plain ∧ r.plain
 | .odd _ => True
 | _ => False
/-- What near goes by. -/
structure Nr (c d : CT) (k : Int) : Prop where
 kc : c.kd = k
 kd : d.kd = k
 ar : arT k = c.kids.length
 ln : c.kids.length = d.kids.length
 lc : ¬ (arT c.kd < 0 ∨ (c.len : Int) < arT c.kd)
 ld : ¬ (arT d.kd < 0 ∨ (d.len : Int) < arT d.kd)
 kids : ∀ (i : Nat) p q, c.kids[i]? = some p → d.kids[i]? = some q → p.ess = q.ess ∧ p.ess.plain
section
variable {P : Program} {n : Nat} {l : List (Nat × Value)} {w : World}
end
end Go.Proofs.Ytbhhbfdoadecgaa

namespace Go.Proofs.Ytbhhbfdoadecgaa
open Go.RowKit Go.Shelf
set_option linter.unusedVariables false
set_option linter.unusedSimpArgs false
/-- A node with its kind and its number alone. -/
def bareC : CT → C8
 | .var n _ => ⟨1, n, emptyB, (0, 0, nilS), nilS, nilS⟩
 | c => ⟨c.kd, 0, emptyB, (0, 0, nilS), nilS, nilS⟩
def chv (dO f b : Int) (z : C8) (vl : Value) : List Value := [.int .i64 dO, .int .i64 f, .int .i64 b, .int .i64 z.k, .int .i64 z.n, .string z.s, .int .i64 z.l.1, .int .i64 z.l.2.1, z.l.2.2, z.ls, z.ts, vl]
def liftR (f b d n : Int) : Int := liftN f b d n
end Go.Proofs.Ytbhhbfdoadecgaa

namespace Go.Proofs.Ytbhhbfdoadecgaa
open Go.RowKit Go.Shelf
set_option linter.unusedVariables false
set_option linter.unusedSimpArgs false
def Z0 : C8 := ⟨0, 0, emptyB, (0, 0, nilS), nilS, nilS⟩
/-- How great Inst's outcome would be. -/
def iszP (c v : CT) : Int := if c.ok ∧ v.ok then min 20001 ((c.size : Int) + (c.ess.occ 0 : Int) * ((v.size : Int) - 1)) else 0
def fitC (c : CT) (x : C8) : C8 := if c.ok then x else Z0
end Go.Proofs.Ytbhhbfdoadecgaa

namespace Go.Proofs.Ytbhhbfdoadecgaa
open Go.RowKit Go.Shelf
set_option linter.unusedVariables false
set_option linter.unusedSimpArgs false
end Go.Proofs.Ytbhhbfdoadecgaa

namespace Go.Proofs.Ytbhhbfdoadecgaa
open Go.RowKit Go.Shelf
set_option linter.unusedVariables false
set_option linter.unusedSimpArgs false
/-- How a function that keeps a state hands things on: J s: the state is s, between two of its steps; K: what it knows by that; St: the steps that it takes by itself; Rl: what a round makes of the state; enc: what it hands on; Dn: where it ends. -/
def HandsG (P : Program) (g : FuncId) (lb : Array Value) (lo hi : Nat) (w0 : World) {σ : Type} (S : σ → Prop) (K : σ → World → Prop) (St : σ → World → σ → World → Prop) (Rl : σ → σ → Prop) (enc : σ → List Value → Prop) (Dn : σ → Prop) : Prop :=
 ∀ (L : Nat) (J : σ → World → Prop) (Jx : World → Prop), (∀ s W, J s W → K s W) → (∀ s W s' W', J s W → St s W s' W' → J s' W') → (∀ W W', Jx W → Below hi W W' → Jx W') →
  (∀ s W vs, J s W → enc s vs → hi ≤ W.heap.size → Below lo w0 W → YieldAt Fence.wide 0 P L vs.toArray W fun en W' => Mid lo hi W W' ∧ ((en = .returned (.bool true) ∧ ∃ s', Rl s s' ∧ J s' W') ∨ (en = .returned (.bool false) ∧ Jx W'))) →
  ∀ s W, S s → J s W → hi ≤ W.heap.size → Below lo w0 W → Calls P g (#[.func (.yield L) #[] #[]] ++ lb) W fun en W' => (∃ v, en = .returned v) ∧ Mid lo hi W W' ∧ ((∃ s', Dn s' ∧ J s' W') ∨ Jx W')
/-- How a round's body may be left. -/
def rndPostG {σ : Type} (lo hi : Nat) (I : σ → World → Prop) (Ix : Code → World → Prop) (Rl : σ → σ → Prop) (s : σ) (W : World) : Exit → Act → World → Prop
 | .normal, _, W' => Mid lo hi W W' ∧ ∃ s', Rl s s' ∧ I s' W'
 | .ret, _, W' => Mid lo hi W W' ∧ Ix .ret W'
 | .exit id, _, W' => Mid lo hi W W' ∧ Ix (.exit id) W'
 | .goto t, _, W' => Mid lo hi W W' ∧ Ix (.goto t) W'
 | .panic _, _, _ => False
 | .outgrown, _, _ => False
theorem rndPostG.calm {σ : Type} {lo hi : Nat} {I : σ → World → Prop} {Ix : Code → World → Prop} {Rl : σ → σ → Prop} {s : σ} {W : World} : Calm (rndPostG lo hi I Ix Rl s W) := ⟨fun _ _ _ h => h, fun _ _ h => h⟩
/-! ### Steps behind a yield, within the fence -/
section
variable {P : Program} {n d : Nat} {l : List (Nat × Value)} {w : World} {a : Act} {ops : Array Oper} {Q : Exit → Act → World → Prop} {rest : List Oper} {ty : TypeId} {pos : String} {af : Array Edge} {ds : List Deferred} {op : Op} {v : Value} {r : Option Nat} {m : Nat}
theorem i_grd {o : Oper} {j : Nat} {want : Bool} (dj : Nat) (hF : Fs n a l (ds := ds)) (hg : o.guard = some (j, want)) (hj : (ops[j]?).bind (·.dst) = some dj) (hb : lk l dj = some (.bool want))
    (h : wpListIn (Fw r) m P ops Q ({ o with guard := none } :: rest) a w) : wpListIn (Fw r) m P ops Q (o :: rest) a w := by
  unfold wpListIn at h ⊢
  rw [if_pos (wanted_none _ rfl _)] at h
  rw [if_pos (by rw [wanted_some hF hg hj hb]; simp)]
  exact h
theorem i_grdn {j : Nat} {want : Bool} (dj : Nat) (hF : Fs n a l (ds := ds)) (hj : (ops[j]?).bind (·.dst) = some dj) (hb : lk l dj = some (.bool (!want))) (hd : d < n)
    (h : ∀ a', Fs n a' ((d, undef) :: l) (ds := ds) → wpListIn (Fw r) m P ops Q rest a' w) : wpListIn (Fw r) m P ops Q (⟨some d, op, ty, pos, af, some (j, want)⟩ :: rest) a w := by
  unfold wpListIn
  rw [if_neg (by rw [wanted_some hF rfl hj hb]; simp)]
  exact ⟨fun _ _ => trivial, h _ (hF.put d hd _)⟩
theorem i_call {f : FuncId} {xs : List Operand} {ts : Array TypeId} (vals : List Value) {R : Value → World → Prop} (hF : Fs n a l (ds := ds)) (hent : Enters P f) (hargs : xs.map (ov l) = vals.map some) (hd : d < n)
    (hC : Calls P f vals.toArray w fun e w' => ∃ v, e = .returned v ∧ R v w')
    (h : ∀ v w' a', R v w' → Fs n a' ((d, v) :: l) (ds := ds) → wpListIn (Fw r) m P ops Q rest a' w') : wpListIn (Fw r) m P ops Q (⟨some d, .call { callee := .value (.func f), args := xs.toArray, argTypes := ts }, ty, pos, af, none⟩ :: rest) a w := by
  unfold wpListIn
  rw [if_pos (wanted_none _ rfl _)]
  refine ⟨fun _ _ => trivial, ?_⟩
  rw [Oper.semAt_eq _ _ _ (by intro c; simp), run_call hF hent hargs _ rfl]
  refine ⟨fun h => absurd h (by simp [Fw]), callsIn_Fw (hC.mono ?_)⟩
  rintro e w' ⟨v, rfl, hR⟩
  exact h v w' _ hR (hF.put d hd v)
theorem i_callB {f : FuncId} {xs : List Operand} {ts : Array TypeId} (vals : List Value) (hF : Fs n a l (ds := ds)) (hent : Enters P f) (hargs : xs.map (ov l) = vals.map some) (hd : d < n) (hC : Calls P f vals.toArray w fun e w' => e = .returned v ∧ Below w.heap.size w w')
    (h : ∀ w' a', Below w.heap.size w w' → Fs n a' ((d, v) :: l) (ds := ds) → wpListIn (Fw r) m P ops Q rest a' w') : wpListIn (Fw r) m P ops Q (⟨some d, .call { callee := .value (.func f), args := xs.toArray, argTypes := ts }, ty, pos, af, none⟩ :: rest) a w :=
  i_call (R := fun u w' => u = v ∧ Below w.heap.size w w') vals hF hent hargs hd (hC.mono fun e w' he => ⟨v, he.1, rfl, he.2⟩) (by rintro _ w' a' ⟨rfl, B⟩ hF'; exact h w' a' B hF')
end
end Go.Proofs.Ytbhhbfdoadecgaa

namespace Go.Proofs.Ytbhhbfdoadecgaa
open Go.RowKit Go.Shelf
set_option linter.unusedVariables false
set_option linter.unusedSimpArgs false
def CT.spL : CT → List CT
 | .two k a b m => .two k a b m :: (if k = 6 then a.spL else [])
 | c => [c]
theorem CT.spL_zero : ∀ (c : CT), c.spL[0]? = some c
 | .two .. => rfl
 | .lt .. => rfl
 | .var .. => rfl
 | .sort .. => rfl
 | .cst .. => rfl
 | .odd .. => rfl
theorem CT.spL_next : ∀ (c ci : CT) (i : Nat), c.spL[i]? = some ci → ((ci.kd = 6 ∧ 0 < ci.kids.length) → ∃ k, ci.kids[0]? = some k ∧ c.spL[i + 1]? = some k) ∧ (¬ (ci.kd = 6 ∧ 0 < ci.kids.length) → i + 1 = c.spL.length)
 | .two k a b m, ci, 0, h => by
  simp [CT.spL] at h
  subst h
  by_cases hk : k = 6
  ·
   subst hk
   refine ⟨fun _ => ⟨a, rfl, ?_⟩, fun h => absurd ⟨rfl, by simp [CT.kids]⟩ h⟩
   simp [CT.spL, a.spL_zero]
  ·
   refine ⟨fun h => absurd h.1 hk, fun _ => ?_⟩
   simp [CT.spL, hk]
 | .two k a b m, ci, i + 1, h => by
  by_cases hk : k = 6
  ·
   subst hk
   simp [CT.spL] at h
   obtain ⟨h1, h2⟩ := CT.spL_next a ci i h
   refine ⟨fun h3 => ?_, fun h3 => ?_⟩
   ·
    obtain ⟨q, h4, h5⟩ := h1 h3
    exact ⟨q, h4, by simpa [CT.spL] using h5⟩
   ·
    have := h2 h3
    simp [CT.spL]
    omega
  ·
   simp [CT.spL, hk] at h
 | .lt a b c m, ci, i, h => by
  rcases i with _ | i
  ·
   simp [CT.spL] at h; subst h; exact ⟨fun h => by simp [CT.kd] at h, fun _ => rfl⟩
  ·
   simp [CT.spL] at h
 | .var n m, ci, i, h => by
  rcases i with _ | i
  ·
   simp [CT.spL] at h; subst h; exact ⟨fun h => by simp [CT.kd] at h, fun _ => rfl⟩
  ·
   simp [CT.spL] at h
 | .sort n m, ci, i, h => by
  rcases i with _ | i
  ·
   simp [CT.spL] at h; subst h; exact ⟨fun h => by simp [CT.kd] at h, fun _ => rfl⟩
  ·
   simp [CT.spL] at h
 | .cst s n m, ci, i, h => by
  rcases i with _ | i
  ·
   simp [CT.spL] at h; subst h; exact ⟨fun h => by simp [CT.kd] at h, fun _ => rfl⟩
  ·
   simp [CT.spL] at h
 | .odd n m, ci, i, h => by
  rcases i with _ | i
  ·
   simp [CT.spL] at h; subst h; exact ⟨fun h => by simp [CT.kids] at h, fun _ => rfl⟩
  ·
   simp [CT.spL] at h
def spK (w0 : World) (c : CT) (b1 : Nat) (s : Nat × Bool) (W : World) : Prop := ∃ ci yi, c.spL[s.1]? = some ci ∧ Blk W b1 27 (tc yi) ∧ RC w0 (fun k => k < w0.heap.size) ci yi
def spSt (w0 : World) (c : CT) (b1 : Nat) (s : Nat × Bool) (W : World) (s' : Nat × Bool) (W' : World) : Prop :=
 (s' = s ∧ Below W.heap.size W W') ∨ (s.2 = true ∧ s' = (s.1 + 1, false) ∧ Only b1 W W' ∧ spK w0 c b1 s' W')
def spRl (s s' : Nat × Bool) : Prop := s' = (s.1, true)
def spEnc (w0 : World) (c : CT) (s : Nat × Bool) (vs : List Value) : Prop := s.2 = false ∧ ∃ ci yi, c.spL[s.1]? = some ci ∧ vs = [tv yi] ∧ RC w0 (fun k => k < w0.heap.size) ci yi
def spDn (c : CT) (s : Nat × Bool) : Prop := s.2 = true ∧ s.1 + 1 = c.spL.length
theorem exit_at {K1 K2 : Act → World → Prop} {Q : Exit → Act → World → Prop} {id : Nat} {a : Act} {w : World} (h : Q .normal a w) : Exit.then K1 (Exit.then K2 (Exit.inBlock id Q)) (.exit id) a w := by
 show (if id = id then Q .normal a w else Q (.exit id) a w)
 rw [if_pos rfl]
 exact h
end Go.Proofs.Ytbhhbfdoadecgaa

namespace Go.Proofs.Ytbhhbfdoadecgaa
open Go.RowKit Go.Shelf
set_option linter.unusedVariables false
set_option linter.unusedSimpArgs false
theorem noDefer_at {ops : Array Oper} (h : ops.all noDefer = true) {i : Nat} {o : Oper} (ho : ops[i]? = some o) : noDefer o = true := by
 rw [Array.all_eq_true] at h
 obtain ⟨hi, rfl⟩ := Array.getElem?_eq_some_iff.1 ho
 exact h i hi
/-- A walk of a region's operations in some order holds within a round, too. -/
theorem opsIn {r : Option Nat} {m : Nat} {P : Program} {ops : Array Oper} {Q : Exit → Act → World → Prop} (hQ : ∀ c a w, ¬ Q (.panic c) a w) (hO : ∀ a w, ¬ Q .outgrown a w) (hn : ops.all noDefer = true) : ∀ (l : List Nat) (a : Act) (w : World), wpOps P ops Q l a w → wpOpsIn (Fw r) m P ops Q l a w
 | [], a, w, h => h
 | i :: rest, a, w, h => by
  unfold wpOps at h
  unfold wpOpsIn
  cases ho : ops[i]? with
  | none =>
   rw [ho] at h
   exact opsIn hQ hO hn rest _ _ h
  | some o =>
   rw [ho] at h
   simp only at h ⊢
   have hn1 := noDefer_at hn ho
   have hnd : ∀ c, o.op ≠ .defer c := by
    intro c e
    simp [noDefer, e] at hn1
   split
   ·
    next hw =>
    rw [if_pos hw] at h
    rcases h with h | ⟨_, a', w', h⟩
    ·
     refine ⟨fun _ _ => trivial, ?_⟩
     rw [Oper.semAt_eq _ _ _ hnd]
     unfold Oper.wp at h
     cases hr : (execOp a.eval o).run P w with
     | ok x w' =>
      rw [hr] at h
      cases x with
      | value v => exact opsIn hQ hO hn rest _ _ h
      | skip => exact opsIn hQ hO hn rest _ _ h
      | defer d => exact opsIn hQ hO hn rest _ _ h
      | enter f args =>
       refine ⟨fun h => absurd h (by simp [Fw]), callsIn_Fw (h.mono ?_)⟩
       intro e w'' he
       cases e with
       | returned v => exact opsIn hQ hO hn rest _ _ he
       | panicked c => exact he
       | outgrown => exact he
      | row nm args =>
       refine ⟨fun h => absurd h (by simp [Fw]), ?_⟩
       exact fun c cs _ => let ⟨v, w', q, st⟩ := Rows.mono h (fun v w'' he => opsIn hQ hO hn rest _ _ he) c cs; ⟨v, w', q, stepsIn_wide.2 st⟩
      | _ => exact (h : False).elim
     | halt x w' =>
      rw [hr] at h
      cases x with
      | panic v => exact h
      | _ => exact (h : False).elim
    ·
     exact absurd h (hO _ _)
   ·
    next hw =>
    rw [if_neg hw] at h
    exact ⟨fun _ _ => trivial, opsIn hQ hO hn rest _ _ h⟩
section
variable {r : Option Nat} {m : Nat} {P : Program} {ops : Array Oper} {S : World → Prop} {N : Nat} {a : Act} {w : World}
end
/-! ### Loops over functions that keep a state, whose rounds may turn what rounds have made -/
/-- The blocks p and p + 1 have not turned. -/
structure Kd (p : Nat) (w w' : World) : Prop where
 size : w.heap.size ≤ w'.heap.size
 one : w'.heap[p]? = w.heap[p]?
 two : w'.heap[p + 1]? = w.heap[p + 1]?
section
variable {p : Nat} {w w' w'' : World}
theorem Kd.refl (p : Nat) (w : World) : Kd p w w := ⟨Nat.le_refl _, rfl, rfl⟩
theorem Kd.trans (h : Kd p w w') (k : Kd p w' w'') : Kd p w w'' := ⟨Nat.le_trans h.size k.size, k.one.trans h.one, k.two.trans h.two⟩
theorem Kd.of_below {B : Nat} (h : Below B w w') (hp : p + 1 < B) : Kd p w w' := ⟨h.size, h.block _ (by omega), h.block _ hp⟩
theorem Kd.below {B : Nat} (h : Kd p w w') (B' : Below B w' w'') (hp : p + 1 < B) : Kd p w w'' := h.trans (Kd.of_below B' hp)
theorem Kd.only {b : Nat} (h : Kd p w w') (o : Only b w' w'') (hb : b ≠ p ∧ b ≠ p + 1) : Kd p w w'' := h.trans ⟨Nat.le_of_eq o.size.symm, o.block _ (by omega), o.block _ (by omega)⟩
theorem Kd.k2 {a b : Nat} (h : Kd p w w') (hK : Ktw a b w' w'') (hp : p + 1 < w'.heap.size ∧ a ≠ p ∧ a ≠ p + 1 ∧ b ≠ p ∧ b ≠ p + 1) : Kd p w w'' := h.trans ⟨hK.size, hK.block _ (by omega) (by omega), hK.block _ (by omega) (by omega)⟩
end
theorem below_k2 {B a b : Nat} {w w' w'' : World} (h : Below B w w') (hK : Ktw a b w' w'') (hb : B ≤ a ∧ B ≤ b ∧ B ≤ w'.heap.size) : Below B w w'' := h.trans ⟨hK.os, hK.tape, hK.output, hK.size, fun k hk => hK.block k (by omega) (by omega)⟩
/-- As HandsG; a round may turn whatever was not there at w0. -/
def HandsX (P : Program) (g : FuncId) (lb : Array Value) (w0 : World) {σ : Type} (S : σ → Prop) (K : σ → World → Prop) (St : σ → World → σ → World → Prop) (Rl : σ → σ → Prop) (enc : σ → List Value → Prop) (Dn : σ → Prop) : Prop :=
 ∀ (L : Nat) (J : σ → World → Prop) (Jx : World → Prop), (∀ s W, J s W → K s W) → (∀ s W s' W', J s W → St s W s' W' → J s' W') → (∀ W W', Jx W → Below W.heap.size W W' → Jx W') →
  (∀ s W vs, J s W → enc s vs → Below w0.heap.size w0 W → YieldAt Fence.wide 0 P L vs.toArray W fun en W' => Below w0.heap.size W W' ∧ ((en = .returned (.bool true) ∧ ∃ s', Rl s s' ∧ J s' W') ∨ (en = .returned (.bool false) ∧ Jx W'))) →
  ∀ s W, S s → J s W → Below w0.heap.size w0 W → Calls P g (#[.func (.yield L) #[] #[]] ++ lb) W fun en W' => (∃ v, en = .returned v) ∧ Below w0.heap.size W W' ∧ ((∃ s', Dn s' ∧ J s' W') ∨ Jx W')
/-- How a round's body may be left. -/
def rndPostX {σ : Type} (lo p : Nat) (I : σ → World → Prop) (Ix : Code → World → Prop) (Rl : σ → σ → Prop) (s : σ) (W : World) : Exit → Act → World → Prop
 | .normal, _, W' => Below lo W W' ∧ Kd p W W' ∧ ∃ s', Rl s s' ∧ I s' W'
 | .ret, _, W' => Below lo W W' ∧ Kd p W W' ∧ Ix .ret W'
 | .exit id, _, W' => Below lo W W' ∧ Kd p W W' ∧ Ix (.exit id) W'
 | .goto t, _, W' => Below lo W W' ∧ Kd p W W' ∧ Ix (.goto t) W'
 | .panic _, _, _ => False
 | .outgrown, _, _ => False
theorem rndPostX.calm {σ : Type} {lo p : Nat} {I : σ → World → Prop} {Ix : Code → World → Prop} {Rl : σ → σ → Prop} {s : σ} {W : World} : Calm (rndPostX lo p I Ix Rl s W) := ⟨fun _ _ _ h => h, fun _ _ h => h⟩
theorem wp_rangeX {σ : Type} {P : Program} {n : Nat} {g : Operand} {ps : List Nat} {assign body : Code} {Q : Exit → Act → World → Prop} {a : Act} {w w0 : World} {l : List (Nat × Value)}
    {gf : FuncId} {lb : Array Value} {S : σ → Prop} {K : σ → World → Prop} {St : σ → World → σ → World → Prop} {Rl : σ → σ → Prop} {enc : σ → List Value → Prop} {Dn : σ → Prop} (hF : Fs n a l) (hg : ov l g = some (.func (.func gf) #[] lb)) (hent : Enters P gf)
    (h0w : Below w0.heap.size w0 w) (hH : HandsX P gf lb w0 S K St Rl enc Dn) (hps : ∀ p ∈ ps, p < n) (hlen : ∀ s vs, enc s vs → vs.length = ps.length)
    (hSt : ∀ s W s' W', St s W s' W' → W.heap.size ≤ W'.heap.size ∧ ∀ k, (k = w.heap.size ∨ k = w.heap.size + 1) → k < W.heap.size → W'.heap[k]? = W.heap[k]?)
    (I : σ → World → Prop) (Ix : Code → World → Prop) (hIK : ∀ s W, I s W → K s W) (hIS : ∀ s W s' W', I s W → St s W s' W' → w.heap.size + 2 ≤ W.heap.size → I s' W') (hI : ∀ s W W', I s W → Below W.heap.size W W' → I s W') (hI2 : ∀ s W W', I s W → Only (w.heap.size + 1) W W' → I s W') (hIx : ∀ c W W', Ix c W → Below W.heap.size W W' → Ix c W') (hIx2 : ∀ c W W', Ix c W → Only (w.heap.size + 1) W W' → Ix c W') (s0 : σ) (hS0 : S s0) (h0 : I s0 w)
    (round : ∀ (L : Nat) s W a₁ vs, L = w.heap.size + 1 → enc s vs → I s W → w.heap.size + 2 ≤ W.heap.size → Below w0.heap.size w0 W → Fs n a₁ ((ps.zip vs).reverse ++ l) →
      ∀ K : Act → World → Prop, (∀ a₂ W₂, Below w0.heap.size W W₂ → Kd w.heap.size W W₂ → (∀ W₃, Only L W₂ W₃ → body.wpIn (Fw (some L)) 0 P (rndPostX w0.heap.size w.heap.size I Ix Rl s W₃) a₂ W₃) → K a₂ W₂) →
      assign.wpIn (Fw (some L)) 0 P (Exit.then K (fun _ _ _ => False)) a₁ W)
    (done : ∀ a' s W, Dn s → I s W → Below w0.heap.size w W → w.heap.size + 2 ≤ W.heap.size → W.heap[w.heap.size]? = some (.deferred (some [])) → Fs n a' l (ds := [{ target := .collected w.heap.size, args := #[] }]) → Q .normal a' W)
    (stop : ∀ a' c W, Ix c W → Below w0.heap.size w W → w.heap.size + 2 ≤ W.heap.size → W.heap[w.heap.size]? = some (.deferred (some [])) → Fs n a' l (ds := [{ target := .collected w.heap.size, args := #[] }]) → c.wp P Q a' W) :
    (Code.rangeFunc g ps.toArray assign body).wp P Q a w := by
  refine (wpIn_wide (n := 0)).1 (wpIn_rangeFunc ?_)
  intro fn hfn
  obtain ⟨rec, hrec⟩ : ∃ rec : LoopState → Option Code → Loop, rec = fun st pe => { state := st, pending := pe, fn, tmps := a.tmps, params := ps.toArray, assign, body, defers := w.heap.size } := ⟨_, rfl⟩
  obtain ⟨W1, hW1⟩ : ∃ W1, (w.alloc (.deferred (some []))).alloc (.loop (rec .ready none)) = W1 := ⟨_, rfl⟩
  have hL1 : W1.heap[w.heap.size + 1]? = some (.loop (rec .ready none)) := by
    rw [← hW1]; have := World.alloc_heap_new (w.alloc (.deferred (some []))) (.loop (rec .ready none)); rwa [World.size_alloc] at this
  have hK1 : W1.heap[w.heap.size]? = some (.deferred (some [])) := by
    rw [← hW1]; exact (Below.heap_alloc _ _ _ (by simp)).trans (World.alloc_heap_new w _)
  have hsz : W1.heap.size = w.heap.size + 2 := by rw [← hW1]; simp
  have hB1 : Below w.heap.size w W1 := by rw [← hW1]; exact ((Below.refl _ _).alloc (Nat.le_refl _) _).alloc (by simp) _
  have hlo : w0.heap.size ≤ w.heap.size := h0w.size
  let J : σ → World → Prop := fun s W => I s W ∧ w.heap.size + 2 ≤ W.heap.size ∧ W.heap[w.heap.size + 1]? = some (.loop (rec .ready none)) ∧ W.heap[w.heap.size]? = some (.deferred (some []))
  let Jx : World → Prop := fun W => ∃ c, Ix c W ∧ w.heap.size + 2 ≤ W.heap.size ∧ W.heap[w.heap.size + 1]? = some (.loop (rec .done (some c))) ∧ W.heap[w.heap.size]? = some (.deferred (some []))
  have hJ : ∀ s W s' W', J s W → St s W s' W' → J s' W' := fun s W s' W' h hs => ⟨hIS s W s' W' h.1 hs h.2.1, Nat.le_trans h.2.1 (hSt s W s' W' hs).1, ((hSt s W s' W' hs).2 _ (.inr rfl) (by have := h.2.1; omega)).trans h.2.2.1, ((hSt s W s' W' hs).2 _ (.inl rfl) (by have := h.2.1; omega)).trans h.2.2.2⟩
  have hJx : ∀ W W', Jx W → Below W.heap.size W W' → Jx W' := fun W W' ⟨c, h⟩ hB => ⟨c, hIx c W W' h.1 hB, Nat.le_trans h.2.1 hB.size, (hB.block _ (by have := h.2.1; omega)).trans h.2.2.1, (hB.block _ (by have := h.2.1; omega)).trans h.2.2.2⟩
  have hc := hH (w.heap.size + 1) J Jx (fun s W h => hIK s W h.1) hJ hJx (by
    rintro s W vs ⟨hi1, hWs, hl1, hd1⟩ hvs hW0
    have hlt : w.heap.size + 1 < W.heap.size := by omega
    have hy := run_yield (P := P) (args := vs.toArray) hl1 (by rw [hrec]; simp [hlen s vs hvs])
    rw [hrec] at hy
    refine ⟨fn, _, assign, body, hy, roundIn_wide' (n := 0) (roundIn_of_wpIn trivial ?_)⟩
    have hFa := fold_put hF ps vs hps
    have hz : (ps.toArray.zip vs.toArray) = (ps.zip vs).toArray := by simp
    rw [hz]
    simp only [List.foldl_toArray]
    refine round (w.heap.size + 1) s W _ vs rfl hvs hi1 hWs hW0 hFa _ ?_
    intro a₂ W₂ hBe hM hb
    have hl2 : W₂.heap[w.heap.size + 1]? = some (.loop (rec .ready none)) := hM.two.trans hl1
    have hd2 : W₂.heap[w.heap.size]? = some (.deferred (some [])) := hM.one.trans hd1
    have hlt2 : w.heap.size + 1 < W₂.heap.size := Nat.lt_of_lt_of_le hlt hM.size
    refine ⟨_, run_beginRound hl2 (by rw [hrec]), ?_⟩
    have ho3 := only_putObj (l := w.heap.size + 1) (w := W₂) (.loop { rec .ready none with state := .busy })
    have hl3 : (W₂.putObj (w.heap.size + 1) (.loop { rec .ready none with state := .busy })).heap[w.heap.size + 1]? = some (.loop { rec .ready none with state := .busy }) := World.putObj_heap_same hlt2
    refine wpIn_mono (hb _ ho3) ?_
    have fin : ∀ (jump : Option Code) (W4 : World), Below w0.heap.size (W₂.putObj (w.heap.size + 1) (.loop { rec .ready none with state := .busy })) W4 → Kd w.heap.size (W₂.putObj (w.heap.size + 1) (.loop { rec .ready none with state := .busy })) W4 →
        (Instr.endRound (w.heap.size + 1) jump).run P W4 = .ok (.bool jump.isNone) (W4.putObj (w.heap.size + 1) (.loop (rec (if jump.isNone then .ready else .done) jump))) ∧
        (W4.putObj (w.heap.size + 1) (.loop (rec (if jump.isNone then .ready else .done) jump))).heap[w.heap.size + 1]? = some (.loop (rec (if jump.isNone then .ready else .done) jump)) ∧
        (W4.putObj (w.heap.size + 1) (.loop (rec (if jump.isNone then .ready else .done) jump))).heap[w.heap.size]? = some (.deferred (some [])) ∧
        Below w0.heap.size W (W4.putObj (w.heap.size + 1) (.loop (rec (if jump.isNone then .ready else .done) jump))) := by
      intro jump W4 h4 hk4
      have hsz3 := ho3.size
      have hl4 := hk4.two.trans hl3
      have hd4 := hk4.one.trans ((ho3.block w.heap.size (by omega)).trans hd2)
      have hr := run_endRound (P := P) jump hl4
      refine ⟨?_, World.putObj_heap_same (Array.getElem?_eq_some_iff.1 hl4).1, (World.putObj_heap_other (by omega)).trans hd4, ?_⟩
      · rw [hrec] at hr ⊢; exact hr
      · exact ((hBe.trans (ho3.below (by omega))).trans h4).trans ((only_putObj _).below (by omega))
    rintro ex a3 W4 hp
    have sz4 : ∀ {W4 : World} o, w.heap.size + 2 ≤ W4.heap.size → w.heap.size + 2 ≤ (W4.putObj (w.heap.size + 1) o).heap.size := fun o h => by rw [(only_putObj o).size]; exact h
    have hs4 : ∀ {W4 : World}, Below w0.heap.size (W₂.putObj (w.heap.size + 1) (.loop { rec .ready none with state := .busy })) W4 → w.heap.size + 2 ≤ W4.heap.size := fun h => by
      have h1 := h.size
      have h2 := ho3.size
      omega
    cases ex with
    | normal =>
      obtain ⟨h4, hk4, s2, hr2, hi4⟩ := hp
      obtain ⟨hr, e1, e2, e3⟩ := fin none W4 h4 hk4
      exact ⟨_, _, hr, e3, .inl ⟨rfl, s2, hr2, hI2 _ _ _ hi4 (only_putObj _), sz4 _ (hs4 h4), e1, e2⟩⟩
    | ret =>
      obtain ⟨h4, hk4, hi4⟩ := hp
      obtain ⟨hr, e1, e2, e3⟩ := fin (some .ret) W4 h4 hk4
      exact ⟨_, _, hr, e3, .inr ⟨rfl, .ret, hIx2 _ _ _ hi4 (only_putObj _), sz4 _ (hs4 h4), e1, e2⟩⟩
    | exit id =>
      obtain ⟨h4, hk4, hi4⟩ := hp
      obtain ⟨hr, e1, e2, e3⟩ := fin (some (.exit id)) W4 h4 hk4
      exact ⟨_, _, hr, e3, .inr ⟨rfl, .exit id, hIx2 _ _ _ hi4 (only_putObj _), sz4 _ (hs4 h4), e1, e2⟩⟩
    | goto t =>
      obtain ⟨h4, hk4, hi4⟩ := hp
      obtain ⟨hr, e1, e2, e3⟩ := fin (some (.goto t)) W4 h4 hk4
      exact ⟨_, _, hr, e3, .inr ⟨rfl, .goto t, hIx2 _ _ _ hi4 (only_putObj _), sz4 _ (hs4 h4), e1, e2⟩⟩
    | panic ch => exact hp.elim
    | outgrown => exact hp.elim) s0 W1 hS0 ⟨hI _ _ _ h0 hB1, by omega, hL1, hK1⟩ (h0w.trans (hB1.mono hlo))
  have hpost : ∀ en W2, ((∃ v, en = .returned v) ∧ Below w0.heap.size W1 W2 ∧ ((∃ s', Dn s' ∧ J s' W2) ∨ Jx W2)) →
      rangePost Fence.wide 0 P (w.heap.size + 1) Q { a with defers := [{ target := .collected w.heap.size, args := #[] }] ++ a.defers } en W2 := by
    rintro en W2 ⟨⟨v, rfl⟩, hM, hend⟩
    have hM0 : Below w0.heap.size w W2 := (hB1.mono hlo).trans hM
    have hFs : Fs n { a with defers := [{ target := .collected w.heap.size, args := #[] }] ++ a.defers } l (ds := [{ target := .collected w.heap.size, args := #[] }]) := ⟨hF.size, by simp [hF.defers], hF.slot⟩
    have sz4 : ∀ {W4 : World} o, w.heap.size + 2 ≤ W4.heap.size → w.heap.size + 2 ≤ (W4.putObj (w.heap.size + 1) o).heap.size := fun o h => by rw [(only_putObj o).size]; exact h
    rcases hend with ⟨s2, hs2, hi2, hz2, hl2, hd2⟩ | ⟨c, hi2, hz2, hl2, hd2⟩
    · refine ⟨none, _, by have := run_endLoop (P := P) hl2 (by rw [hrec]; simp); rw [hrec] at this; exact this, ?_⟩
      exact done _ s2 _ hs2 (hI2 _ _ _ hi2 (only_putObj _)) (hM0.trans ((only_putObj _).below (by omega))) (sz4 _ hz2) ((World.putObj_heap_other (by omega)).trans hd2) hFs
    · refine ⟨some c, _, by have := run_endLoop (P := P) hl2 (by rw [hrec]; simp); rw [hrec] at this; exact this, ?_⟩
      exact (wpIn_wide (n := 0)).2 (stop _ c _ (hIx2 _ _ _ hi2 (only_putObj _)) (hM0.trans ((only_putObj _).below (by omega))) (sz4 _ hz2) ((World.putObj_heap_other (by omega)).trans hd2) hFs)
  refine ⟨w.heap.size + 1, [{ target := .collected w.heap.size, args := #[] }], W1, { target := .fn (.func gf) lb, args := #[.func (.yield (w.heap.size + 1)) #[] #[]] }, W1, gf,
    #[.func (.yield (w.heap.size + 1)) #[] #[]] ++ lb, W1, ?_, ?_, fun _ _ => trivial, ?_, (fun h => by simp [Fence.wide] at h), ?_⟩
  · rw [← hW1, hrec]; exact run_enterLoop_outer _ _ _ _ _
  · simp only [resolve, hF.ov hg]
    simp [go_sem]
  · simp [invoke, go_sem, hent _ _]
  · exact ((callsIn_wide (n := 0 - 1)).2 hc).mono hpost
/-! ### Three old blocks that may turn -/
structure K3 (a b c : Nat) (w w' : World) : Prop where
 os : w'.os = w.os
 tape : w'.tape = w.tape
 output : w'.output = w.output
 size : w.heap.size ≤ w'.heap.size
 block : ∀ k, k < w.heap.size → k ≠ a ∧ k ≠ b ∧ k ≠ c → w'.heap[k]? = w.heap[k]?
section
variable {a b c : Nat} {w w' w'' : World}
theorem K3.refl (a b c : Nat) (w : World) : K3 a b c w w := ⟨rfl, rfl, rfl, Nat.le_refl _, fun _ _ _ => rfl⟩
theorem K3.below (h : K3 a b c w w') (B : Below w'.heap.size w' w'') : K3 a b c w w'' :=
 ⟨B.os.trans h.os, B.tape.trans h.tape, B.output.trans h.output, Nat.le_trans h.size B.size, fun k hk hb => (B.block k (Nat.lt_of_lt_of_le hk h.size)).trans (h.block k hk hb)⟩
theorem K3.only {d : Nat} (h : K3 a b c w w') (o : Only d w' w'') (hc : d = a ∨ d = b ∨ d = c ∨ w.heap.size ≤ d) : K3 a b c w w'' :=
 ⟨o.os.trans h.os, o.tape.trans h.tape, o.output.trans h.output, by rw [o.size]; exact h.size, fun k hk hb => (o.block k (by omega)).trans (h.block k hk hb)⟩
theorem K3.trans {d e : Nat} (h : K3 a b c w w') (h' : Ktw d e w' w'') (hc : (d = a ∨ d = b ∨ d = c ∨ w.heap.size ≤ d) ∧ (e = a ∨ e = b ∨ e = c ∨ w.heap.size ≤ e)) : K3 a b c w w'' :=
 ⟨h'.os.trans h.os, h'.tape.trans h.tape, h'.output.trans h.output, Nat.le_trans h.size h'.size, fun k hk hb => (h'.block k (Nat.lt_of_lt_of_le hk h.size) (by omega)).trans (h.block k hk hb)⟩
theorem K3.under {w0 : World} (h : K3 a b c w w') (h0 : Below w0.heap.size w0 w) (hb : w0.heap.size ≤ a ∧ w0.heap.size ≤ b ∧ w0.heap.size ≤ c) : Below w0.heap.size w0 w' :=
 h0.trans ⟨h.os, h.tape, h.output, h.size, fun k hk => h.block k (Nat.lt_of_lt_of_le hk h0.size) (by omega)⟩
theorem Blk.k3 {d t : Nat} {cs : List Value} (m : Blk w d t cs) (h : K3 a b c w w') (hb : d ≠ a ∧ d ≠ b ∧ d ≠ c) : Blk w' d t cs := (h.block d m.lt hb).trans m
end
section
variable {r : Option Nat} {m : Nat} {P : Program} {ops : Array Oper} {N : Nat} {a : Act} {w : World}
end
end Go.Proofs.Ytbhhbfdoadecgaa

namespace Go.Proofs.Ytbhhbfdoadecgaa
open Go.RowKit Go.Shelf
set_option linter.unusedVariables false
set_option linter.unusedSimpArgs false
/-- As wpAnyH; S is asked for until number e has come up. -/
def wpAnyL (P : Program) (md : Region.Mode) (ops : Array Oper) (Q : Exit → Act → World → Prop) (S : World → Prop) (e : Nat) : Nat → Array Bool → Act → World → Prop
 | 0, listed, a, w => Region.ready md ops listed = [] ∧ Q .normal a w
 | fuel + 1, listed, a, w =>
  (Region.ready md ops listed = [] → Q .normal a w) ∧
  ∀ i ∈ Region.ready md ops listed, wpOp P ops Q i (fun a' w' => ((listed.setIfInBounds i true).getD e true = false → S w') ∧ wpAnyL P md ops Q S e fuel (listed.setIfInBounds i true) a' w') a w
section
variable {P : Program} {ops : Array Oper} {Q : Exit → Act → World → Prop} {md : Region.Mode} {S : World → Prop} {e : Nat}
theorem wpAny_of_L : ∀ (fuel : Nat) (listed : Array Bool) (a : Act) (w : World), wpAnyL P md ops Q S e fuel listed a w → wpAny P md ops Q fuel listed a w
 | 0, _, _, _, h => h
 | fuel + 1, _, _, _, h => ⟨h.1, fun i hi => wpOp_mono (fun a' w' h' => wpAny_of_L fuel _ a' w' h'.2) (h.2 i hi)⟩
theorem wpAnyL_first {i : Nat} {oi : Oper} {v : Value} {S' : World → Prop} {T : Array Bool → Prop} (hi : ops[i]? = some oi) (hsel : ∀ (j : Nat) (o : Oper) cs b, ops[j]? = some o → o.op ≠ .select cs b)
    (hQ : ∀ c a w, Q (.panic c) (a.put oi.dst v) w → Q (.panic c) a w) (hie : i ≠ e) (hTS : ∀ l w, T l → (l.getD e true = false → S w) → S' w)
    (hT : ∀ (l : Array Bool) j, T l → l.getD i true = false → j ∈ Region.ready md ops l → j ≠ i → T (l.setIfInBounds j true)) :
    ∀ (fuel : Nat) (listed : Array Bool) (a : Act) (w : World), T listed →
      (∀ j oj, ops[j]? = some oj → j ≠ i → listed.getD j true = false → (∀ e ∈ oj.after, Region.binds md e = true → e.on ≠ i) → oi.apart ops oj = true) →
      i ∈ Region.ready md ops listed → YieldsIf P ops S' oi v a → (listed.getD e true = false → S w) →
      wpAnyL P md ops Q S e fuel (listed.setIfInBounds i true) (a.put oi.dst v) w → wpAnyL P md ops Q S e (fuel + 1) listed a w := by
  intro fuel
  induction fuel with
  | zero =>
    intro listed a w hTl _ hr hy hS H
    refine ⟨fun h => (by rw [h] at hr; cases hr), fun j hj => ?_⟩
    by_cases hji : j = i
    · subst hji; exact hy.wpOp hi (hTS _ _ hTl hS) ⟨fun h => hS (by rwa [getD_set_ne true hie] at h), H⟩
    · have := ready_mono hj hji
      rw [H.1] at this
      cases this
  | succ fuel ih =>
    intro listed a w hTl hfree hr hy hS H
    refine ⟨fun h => (by rw [h] at hr; cases hr), fun j hj => ?_⟩
    by_cases hji : j = i
    · subst hji; exact hy.wpOp hi (hTS _ _ hTl hS) ⟨fun h => hS (by rwa [getD_set_ne true hie] at h), H⟩
    · have h1 := H.2 j (ready_mono hj hji)
      obtain ⟨hjun, oj, hoj, hall⟩ := mem_ready.1 hj
      have hnot : ∀ e ∈ oj.after, Region.binds md e = true → e.on ≠ i := fun e he hb heq => by
        have h1 := hall e he hb
        have h0 := (mem_ready.1 hr).1
        rw [heq] at h1
        rcases Nat.lt_or_ge i listed.size with h' | h'
        · simp [h'] at h0 h1; rw [h0] at h1; cases h1
        · simp [Array.getElem?_eq_none h'] at h1
      have h2 := wpOp_putIf hoj (hfree j oj hoj hji hjun hnot) (fun cs b => hsel i oi cs b hi) (fun cs b => hsel j oj cs b hoj) hQ hy h1
      have hfree' : ∀ k ok, ops[k]? = some ok → k ≠ i → (listed.setIfInBounds j true).getD k true = false →
          (∀ e ∈ ok.after, Region.binds md e = true → e.on ≠ i) → oi.apart ops ok = true := fun k ok hk hki hun hno => by
        refine hfree k ok hk hki ?_ hno
        by_cases hjk : j = k
        · subst hjk; exact hjun
        · rw [getD_set_ne true hjk] at hun; exact hun
      have hsw : ∀ h : (listed.setIfInBounds j true).getD e true = false, ((listed.setIfInBounds i true).setIfInBounds j true).getD e true = false := fun h => by
        rw [Array.setIfInBounds_comm _ _ (Ne.symm hji), getD_set_ne true hie]; exact h
      refine wpOp_mono (fun a' w' h3 => ⟨fun h => h3.2.1 (hsw h), ih (listed.setIfInBounds j true) a' w' (hT _ _ hTl (mem_ready.1 hr).1 hj hji) hfree' (ready_mono hr (Ne.symm hji)) h3.1 (fun h => h3.2.1 (hsw h)) ?_⟩) h2
      rw [Array.setIfInBounds_comm _ _ hji]
      exact h3.2.2
theorem wpAnyL_all {rs : List Nat} {fuel : Nat} {listed : Array Bool} {a : Act} {w : World} (hr : Region.ready md ops listed = rs) (hne : rs ≠ [])
    (h : ∀ i ∈ rs, wpOp P ops Q i (fun a' w' => ((listed.setIfInBounds i true).getD e true = false → S w') ∧ wpAnyL P md ops Q S e fuel (listed.setIfInBounds i true) a' w') a w) : wpAnyL P md ops Q S e (fuel + 1) listed a w :=
  ⟨fun h0 => absurd (hr ▸ h0) hne, hr ▸ h⟩
theorem wpAnyL_done {listed : Array Bool} {a : Act} {w : World} (hr : Region.ready md ops listed = []) (h : Q .normal a w) :
    ∀ fuel, wpAnyL P md ops Q S e fuel listed a w
  | 0 => ⟨hr, h⟩
  | _ + 1 => ⟨fun _ => h, by rw [hr]; simp⟩
end
/-- Number e waits for number i. -/
def waitsB (ops : Array Oper) (e i : Nat) : Bool := match ops[e]? with
 | some o => o.after.any (fun x => Region.binds .any x && Nat.beq x.on i)
 | none => false
theorem not_lst {N : Nat} {d : List Nat} {e : Nat} (h : (lst N d).getD e true = true) {p : Prop} (h2 : (lst N d).getD e true = false) : p := by
 rw [h] at h2; cases h2
section
variable {P : Program} {ops : Array Oper} {K : Act → World → Prop} {S : World → Prop} {N n : Nat} {done : List Nat} {fuel e : Nat} {a : Act} {w : World} {l : List (Nat × Value)}
/-- What reads memory, while S holds; e waits for it. -/
theorem dl_val {ds : List Deferred} (i d : Nat) {op : Op} {v : Value} (hF : Fs n a l (ds := ds)) (hS : S w) (hop : lookG ops i = some (some d, op, none)) (hr : ∀ W, S W → Runs P n l W op v) (hok : okTake ops (lst N done) i = true) (hw : (waitsB ops e i && (! (lst N done).getD e true) && ! Nat.beq i e) = true) (hd : d < n)
    (h : ∀ a', Fs n a' ((d, v) :: l) (ds := ds) → wpAnyL P .any ops (QN K) S e fuel (lst N (i :: done)) a' w) : wpAnyL P .any ops (QN K) S e (fuel + 1) (lst N done) a w := by
  obtain ⟨o, ho, hdst, hopp, hgu⟩ := lookG_some hop
  simp only [okTake, Bool.and_eq_true] at hok
  simp only [Bool.and_eq_true, Bool.not_eq_true'] at hw
  obtain ⟨⟨hw1, hw2⟩, hw3⟩ := hw
  have hie : i ≠ e := Nat.ne_of_beq_eq_false hw3
  refine wpAnyL_first (S' := S) (T := fun l => l.getD e true = false) ho (Region.noSelect_spec hok.1.1) (fun _ _ _ h => h) hie (fun l w h1 h2 => h2 h1) (fun l j h1 h2 hj hji => ?_) fuel _ a w hw2 (Region.free_spec ho hok.1.2) (by simpa using hok.2) (.inl ⟨wanted_none o hgu _, fun W hW => hr W hW _ a hF o hopp⟩) (fun _ => hS) ?_
  · have hje : j ≠ e := by
      rintro rfl
      obtain ⟨_, oj, hoj, hall⟩ := mem_ready.1 hj
      simp only [waitsB, hoj] at hw1
      rw [Array.any_eq_true] at hw1
      obtain ⟨q, hq, hb⟩ := hw1
      simp only [Bool.and_eq_true] at hb
      have := hall _ (Array.getElem_mem hq) hb.1
      rw [Nat.eq_of_beq_eq_true hb.2] at this
      rcases Nat.lt_or_ge i l.size with h' | h'
      · simp [h'] at h2 this; rw [h2] at this; cases this
      · simp [Array.getElem?_eq_none h'] at this
    rw [getD_set_ne true hje]; exact h1
  · rw [hdst]
    exact h _ (hF.put d hd v)
/-- What reads none. -/
theorem dl_vala {ds : List Deferred} (i d : Nat) {op : Op} {v : Value} (hF : Fs n a l (ds := ds)) (hS : (lst N done).getD e true = false → S w) (hop : lookG ops i = some (some d, op, none)) (hr : ∀ W, Runs P n l W op v) (hok : okTake ops (lst N done) i = true) (hw : (! Nat.beq i e) = true) (hd : d < n)
    (h : ∀ a', Fs n a' ((d, v) :: l) (ds := ds) → wpAnyL P .any ops (QN K) S e fuel (lst N (i :: done)) a' w) : wpAnyL P .any ops (QN K) S e (fuel + 1) (lst N done) a w := by
  obtain ⟨o, ho, hdst, hopp, hgu⟩ := lookG_some hop
  simp only [okTake, Bool.and_eq_true] at hok
  simp only [Bool.not_eq_true'] at hw
  have hie : i ≠ e := Nat.ne_of_beq_eq_false hw
  refine wpAnyL_first (S' := fun _ => True) (T := fun _ => True) ho (Region.noSelect_spec hok.1.1) (fun _ _ _ h => h) hie (fun l w h1 h2 => trivial) (fun l j h1 h2 hj hji => trivial) fuel _ a w trivial (Region.free_spec ho hok.1.2) (by simpa using hok.2) (.inl ⟨wanted_none o hgu _, fun W _ => hr W _ a hF o hopp⟩) hS ?_
  rw [hdst]
  exact h _ (hF.put d hd v)
theorem dl_one (i : Nat) (d : Option Tmp) (op : Op) (ho : (ops[i]?).map (fun o => (o.dst, o.op, o.guard)) = some (d, op, none)) (hr : Region.ready .any ops (lst N done) = [i])
    (h : ∀ ty pos af, wpList P ops (QN fun a' w' => ((lst N (i :: done)).getD e true = false → S w') ∧ wpAnyL P .any ops (QN K) S e fuel (lst N (i :: done)) a' w') [⟨d, op, ty, pos, af, none⟩] a w) : wpAnyL P .any ops (QN K) S e (fuel + 1) (lst N done) a w := by
  refine wpAnyL_all hr (by simp) (fun j hj => ?_)
  simp at hj
  subst hj
  exact d_op j d op ho h
theorem dl_two (i j : Nat) (hr : Region.ready .any ops (lst N done) = [i, j])
    (h1 : wpOp P ops (QN K) i (fun a' w' => ((lst N (i :: done)).getD e true = false → S w') ∧ wpAnyL P .any ops (QN K) S e fuel (lst N (i :: done)) a' w') a w)
    (h2 : wpOp P ops (QN K) j (fun a' w' => ((lst N (j :: done)).getD e true = false → S w') ∧ wpAnyL P .any ops (QN K) S e fuel (lst N (j :: done)) a' w') a w) : wpAnyL P .any ops (QN K) S e (fuel + 1) (lst N done) a w := by
  refine wpAnyL_all hr (by simp) (fun m hm => ?_)
  simp at hm
  rcases hm with rfl | rfl
  · exact h1
  · exact h2
theorem dl_end (hr : Region.ready .any ops (lst N done) = []) (h : K a w) : wpAnyL P .any ops (QN K) S e fuel (lst N done) a w := wpAnyL_done hr h _
variable {r : Option Nat} {m : Nat}
theorem dli_start {id : Nat} {ops0 : Array Oper} {Q : Exit → Act → World → Prop} (S : World → Prop) (e : Nat) (ho : ops = ops0) (hn : ops.all noDefer = true) (hm : P.follows .mixedOrders = true) (hN : ops.size = N)
    (h : ∀ K : Act → World → Prop, (∀ a w, Q .normal a w → K a w) → wpAnyL P .any ops (QN K) S e N (lst N []) a w.drew) : (Code.region id ops0 true).wpIn (Fw r) m P Q a w := by
  subst ho
  subst hN
  refine wpIn_mono (Q := QN fun a w => Q .normal a w) (wpIn_region_draw fun t => ?_) (fun e a w h => by cases e <;> first | exact h | exact (h : False).elim)
  simp only [Region.schedule, hm, Bool.true_or, if_true]
  exact opsIn (fun _ _ _ h => h) (fun _ _ h => h) hn _ _ _ (wpAny_sound _ t _ a _ (wpAny_of_L _ _ _ _ (h _ fun _ _ h => h)))
theorem dli_region {id : Nat} {ops0 : Array Oper} {Q : Exit → Act → World → Prop} (b c e : Nat) (ho : ops = ops0) (hm : P.follows .mixedOrders = true) (hN : ops.size = N)
    (h : ∀ wd, wd.heap = w.heap → Below w.heap.size w wd → Ktw b c wd wd → ∀ K : Act → World → Prop, (∀ a w, Q .normal a w → K a w) → wpAnyL P .any ops (QN K) (Ktw b c wd) e N (lst N []) a wd) (hn : ops.all noDefer = true := by kernel_rfl) : (Code.region id ops0 true).wpIn (Fw r) m P Q a w :=
  dli_start (Ktw b c w.drew) e ho hn hm hN (h w.drew rfl (drawn_below w) (Ktw.refl b c _))
end
end Go.Proofs.Ytbhhbfdoadecgaa

namespace Go.Proofs.Ytbhhbfdoadecgaa
set_option maxRecDepth 100000
set_option maxHeartbeats 1600000
open Go.RowKit Go.Shelf
set_option linter.unusedVariables false
set_option linter.unusedSimpArgs false
def CT.spA : CT → List CT
 | .two k a b m => if k = 6 then b :: a.spA else []
 | _ => []
def CT.spH : CT → CT
 | .two k a b m => if k = 6 then a.spH else .two k a b m
 | c => c
theorem CT.spA_len : ∀ c : CT, c.spA.length + 1 = c.spL.length
 | .two k a b m => by
  by_cases hk : k = 6
  ·
   simp [CT.spA, CT.spL, hk, a.spA_len]
  ·
   simp [CT.spA, CT.spL, hk]
 | .lt .. => rfl
 | .var .. => rfl
 | .sort .. => rfl
 | .cst .. => rfl
 | .odd .. => rfl
theorem CT.spA_get : ∀ (c ci : CT) (i : Nat), c.spL[i]? = some ci → (ci.kd = 6 ∧ 0 < ci.kids.length) → ∃ b, ci.kids[1]? = some b ∧ c.spA[i]? = some b
 | .two k a b m, ci, 0, h, h2 => by
  simp [CT.spL] at h
  subst h
  obtain rfl : k = 6 := h2.1
  exact ⟨b, rfl, by simp [CT.spA]⟩
 | .two k a b m, ci, i + 1, h, h2 => by
  by_cases hk : k = 6
  ·
   subst hk
   simp [CT.spL] at h
   obtain ⟨q, h3, h4⟩ := CT.spA_get a ci i h h2
   exact ⟨q, h3, by simpa [CT.spA] using h4⟩
  ·
   simp [CT.spL, hk] at h
 | .lt a b c m, ci, i, h, h2 => by
  rcases i with _ | i
  ·
   simp [CT.spL] at h; subst h; simp [CT.kd] at h2
  ·
   simp [CT.spL] at h
 | .var n m, ci, i, h, h2 => by
  rcases i with _ | i
  ·
   simp [CT.spL] at h; subst h; simp [CT.kd] at h2
  ·
   simp [CT.spL] at h
 | .sort n m, ci, i, h, h2 => by
  rcases i with _ | i
  ·
   simp [CT.spL] at h; subst h; simp [CT.kd] at h2
  ·
   simp [CT.spL] at h
 | .cst .., ci, i, h, h2 => by
  rcases i with _ | i
  ·
   simp [CT.spL] at h; subst h; simp [CT.kd] at h2
  ·
   simp [CT.spL] at h
 | .odd n m, ci, i, h, h2 => by
  rcases i with _ | i
  ·
   simp [CT.spL] at h; subst h; simp [CT.kids] at h2
  ·
   simp [CT.spL] at h
theorem CT.spH_last : ∀ (c : CT), c.spL[c.spL.length - 1]? = some c.spH
 | .two k a b m => by
  by_cases hk : k = 6
  ·
   subst hk
   have h1 := a.spA_len
   have h2 := a.spH_last
   simp only [CT.spL, CT.spH, if_true, List.length_cons, Nat.add_sub_cancel]
   rw [show a.spL.length = a.spL.length - 1 + 1 by omega, List.getElem?_cons_succ]
   exact h2
  ·
   simp [CT.spL, CT.spH, hk]
 | .lt .. => rfl
 | .var .. => rfl
 | .sort .. => rfl
 | .cst .. => rfl
 | .odd .. => rfl
theorem CT.spH_apps : ∀ (c : CT), PT.apps c.spH.ess (c.spA.reverse.map CT.ess) = c.ess
 | .two k a b m => by
  by_cases hk : k = 6
  ·
   subst hk
   simp only [CT.spH, CT.spA, if_true, List.reverse_cons, List.map_append, List.map_cons, List.map_nil, apps_snoc, a.spH_apps]
   rfl
  ·
   simp [CT.spH, CT.spA, hk, PT.apps]
 | .lt .. => rfl
 | .var .. => rfl
 | .sort .. => rfl
 | .cst .. => rfl
 | .odd .. => rfl
theorem CT.spH_kd : ∀ (c : CT), ¬ (c.spH.kd = 6 ∧ 0 < c.spH.kids.length)
 | .two k a b m => by
  by_cases hk : k = 6
  ·
   simp only [CT.spH, hk, if_true]; exact a.spH_kd
  ·
   simp [CT.spH, hk, CT.kd]
 | .lt .. => by simp [CT.spH, CT.kd]
 | .var .. => by simp [CT.spH, CT.kd]
 | .sort .. => by simp [CT.spH, CT.kd]
 | .cst .. => by simp [CT.spH, CT.kd]
 | .odd .. => by simp [CT.spH, CT.kids]
/-! ### The closure of spine -/
def spKx (w0 : World) (A : Nat → Prop) (c : CT) (b1 : Nat) (s : Nat × Bool) (W : World) : Prop := ∃ ci yi, c.spL[s.1]? = some ci ∧ Blk W b1 27 (tc yi) ∧ RC w0 A ci yi
def spStx (w0 : World) (A : Nat → Prop) (c : CT) (b1 : Nat) (s : Nat × Bool) (W : World) (s' : Nat × Bool) (W' : World) : Prop :=
 (s' = s ∧ Below W.heap.size W W') ∨ (s.2 = true ∧ s' = (s.1 + 1, false) ∧ Only b1 W W' ∧ spKx w0 A c b1 s' W')
def spEncx (w0 : World) (A : Nat → Prop) (c : CT) (s : Nat × Bool) (vs : List Value) : Prop := s.2 = false ∧ ∃ ci yi, c.spL[s.1]? = some ci ∧ vs = [tv yi] ∧ RC w0 A ci yi
theorem spine106x (w0 : World) (A : Nat → Prop) (hA : ∀ k, A k → k < w0.heap.size) (c : CT) (b1 : Nat) (h1 : w0.heap.size ≤ b1) :
    HandsX Try.prog 95 #[.pointer (some ⟨b1, 0, none⟩)] w0 (fun s => s = (0, false)) (spKx w0 A c b1) (spStx w0 A c b1) spRl (spEncx w0 A c) (spDn c) := by
  intro L J Jx hJK hJS hJxs hY s W hs hJ hB
  subst hs
  have hM := Below.refl w0.heap.size W
  refine calls_fs 14 [(0, .func (.yield L) #[] #[]), (1, .pointer (some ⟨b1, 0, none⟩))] Try.func95 rfl rfl rfl rfl rfl fun a F => ?_
  refine wp_block ?_
  refine wp_up (c.spL.length - 1) (fun i a w => J (i, false) w ∧ Below w0.heap.size W w ∧ Below w0.heap.size w0 w ∧ Fs 14 a [(0, .func (.yield L) #[] #[]), (1, .pointer (some ⟨b1, 0, none⟩))]) ⟨hJ, hM, hB, F⟩ ?_
  clear F hB hJ hM
  rintro i a w hi2 ⟨hJ, hM, hB, F⟩ K' hK'
  obtain ⟨ci, yi, hci, m1, hri⟩ := hJK _ _ hJ
  refine wp_seq_k fun _ K1 => ?_
  refine wp_rsI fun _ K2 => ?_
  refine i_val F (x_move rfl) rfl (by decide) fun a F => ?_
  refine i_val F (x_ldW wide27 m1 rfl rfl) rfl (by decide) fun a F => ?_
  refine i_yield (R := fun v W' => ∃ b, v = .bool b ∧ Below w0.heap.size w W' ∧ ((b = true ∧ J (i, true) W') ∨ (b = false ∧ Jx W'))) F [_] rfl rfl (by decide) ?_ ?_
  · refine YieldAt.mono (hY (i, false) w _ hJ ⟨rfl, ci, yi, hci, rfl, hri⟩ hB) ?_
    rintro en W' ⟨h4, ⟨rfl, s', hs', h5⟩ | ⟨rfl, h5⟩⟩
    · exact ⟨_, rfl, true, rfl, h4, .inl ⟨rfl, by rw [show s' = (i, true) from hs'] at h5; exact h5⟩⟩
    · exact ⟨_, rfl, false, rfl, h4, .inr ⟨rfl, h5⟩⟩
  rintro _ w5 a ⟨b5, rfl, hm5, h5⟩ F
  have s5 := hm5.size
  have hM5 := hM.trans hm5
  have hB5 := hB.trans hm5
  have sB5 := hB5.size
  rcases h5 with ⟨rfl, hJ5⟩ | ⟨rfl, hx5⟩
  · obtain ⟨cj, yj, hcj, m5, hrj⟩ := hJK _ _ hJ5
    obtain rfl : cj = ci := by
      simp only at hcj hci
      rw [hci] at hcj
      exact (Option.some.inj hcj).symm
    refine i_val F (x_move rfl) rfl (by decide) fun a F => ?_
    refine i_grd 6 F rfl rfl rfl ?_
    refine i_val F (x_ldW wide27 m5 rfl rfl) rfl (by decide) fun a F => ?_
    refine i_grd 6 F rfl rfl rfl ?_
    refine i_callB [_] F E54 rfl (by decide) (isApplied68 cj yj _ w0 w5 hrj) fun w8 a B8 F => ?_
    have s8 := B8.size
    have hB8 := hB5.trans (B8.mono (by omega))
    have hM8 := hM5.trans (B8.mono (by omega))
    have hJ8 := hJS _ _ _ _ hJ5 (.inl ⟨rfl, B8⟩)
    have m8 := m5.old B8
    refine i_val F (x_pick (b := true) rfl rfl) rfl (by decide) fun a F => ?_
    refine i_end (K2 _ _ ?_)
    refine wp_iff F rfl (fun hap => ?_) (fun hap => ?_)
    · obtain ⟨k0, hk0, hnx⟩ := (CT.spL_next c cj i hcj).1 hap
      obtain ⟨av, nv, cv, hts, hle9, hlen9, hcap, hkid⟩ := hrj.kids
      obtain ⟨xk, xn, xs, xl, xls, xts⟩ := yj
      simp only at hts
      subst hts
      obtain ⟨b9, off9, c9, y, kd, hve, hyk, hry, hAb, hbl, hrow⟩ := hkid.row (i := 0) hap.2
      cases hve
      obtain rfl : kd = k0 := by rw [hk0] at hyk; exact (Option.some.inj hyk).symm
      have hln : i + 1 < c.spL.length := (List.getElem?_eq_some_iff.1 hnx).1
      refine wp_skip (K1 _ _ ?_)
      refine wp_block ?_
      refine wp_region_lit ?_
      refine F.vl (x_fa0 fa27_5 rfl) fun a F => F.ld m8 flat25 rfl rfl fun a F => F.vl (x_ixa rfl rfl (m_ixsK 0 Try.underlying25 el25.size rfl (by omega))) fun a F => F.vl (x_ldA wide27 (hrow _ (hB8.block _ hbl)) rfl rfl) fun a F => ?_
      refine s_putW F rfl rfl (size_wide wide27) m8 rfl hry.one fun w9 m9 o9 => ?_
      have s9 := o9.size
      have hK9 : spKx w0 A c b1 (i + 1, false) w9 := ⟨kd, y, hnx, m9, hry⟩
      refine s_end (hK' _ _ (by omega) ⟨hJS _ _ _ _ hJ8 (.inr ⟨rfl, rfl, o9, hK9⟩), hM8.trans (o9.below h1), hB8.trans (o9.below h1), F.sub _ rfl⟩)
    · have hdn := (CT.spL_next c cj i hcj).2 hap
      refine wp_exit (exit_at ?_)
      exact post_normal (res_none F rfl ⟨⟨_, rfl⟩, hM8, .inl ⟨(i, true), ⟨rfl, hdn⟩, hJ8⟩⟩)
  · refine i_val F (x_move rfl) rfl (by decide) fun a F => ?_
    refine i_grdn 6 F rfl rfl (by decide) fun a F => ?_
    refine i_grdn 6 F rfl rfl (by decide) fun a F => ?_
    refine i_val F (x_pick (b := false) rfl rfl) rfl (by decide) fun a F => ?_
    refine i_end (K2 _ _ ?_)
    refine wp_if F rfl ?_
    refine wp_exit (exit_at ?_)
    exact post_normal (res_none F rfl ⟨⟨_, rfl⟩, hM5, .inr hx5⟩)
/-! ### Elements of a row, read and set -/
theorem fm8_take (ys : List C8) (k : Nat) (h : k ≤ ys.length) : (ys.flatMap tc).take (k * 8) = (ys.take k).flatMap tc := by
 have h1 : ys.flatMap tc = (ys.take k).flatMap tc ++ (ys.drop k).flatMap tc := by rw [← List.flatMap_append, List.take_append_drop]
 rw [h1]
 exact List.take_left' (by rw [fm8_len, List.length_take]; omega)
theorem fm8_drop (ys : List C8) (k : Nat) (h : k ≤ ys.length) : (ys.flatMap tc).drop (k * 8) = (ys.drop k).flatMap tc := by
 have h1 : ys.flatMap tc = (ys.take k).flatMap tc ++ (ys.drop k).flatMap tc := by rw [← List.flatMap_append, List.take_append_drop]
 rw [h1]
 exact List.drop_left' (by rw [fm8_len, List.length_take]; omega)
theorem fm8_split {cur : List Value} {ys : List C8} (h : cur.take (ys.length * 8) = ys.flatMap tc) : cur = ys.flatMap tc ++ cur.drop (ys.length * 8) := by rw [← h, List.take_append_drop]
theorem fm8_read {cur : List Value} {ys : List C8} {k : Nat} {y : C8} (h : cur.take (ys.length * 8) = ys.flatMap tc) (hy : ys[k]? = some y) : (cur.drop (0 + k * 8)).take (tc y).length = tc y := by
 have hk := (List.getElem?_eq_some_iff.1 hy).1
 have h2 : ys.drop k = y :: ys.drop (k + 1) := by
  rw [List.drop_eq_getElem_cons hk]
  rw [List.getElem?_eq_getElem hk] at hy
  rw [Option.some.inj hy]
 rw [Nat.zero_add, fm8_split h, List.drop_append_of_le_length (by rw [fm8_len]; omega), fm8_drop _ _ (by omega), h2, List.flatMap_cons, List.append_assoc]
 exact List.take_left' rfl
theorem fm8_set {cur : List Value} {ys : List C8} {k : Nat} {y : C8} (h : cur.take (ys.length * 8) = ys.flatMap tc) (hk : k < ys.length) (hl : ys.length * 8 ≤ cur.length) :
    (cur.take (0 + k * 8) ++ tc y ++ cur.drop (0 + k * 8 + (tc y).length)).take ((ys.set k y).length * 8) = (ys.set k y).flatMap tc ∧ (cur.take (0 + k * 8) ++ tc y ++ cur.drop (0 + k * 8 + (tc y).length)).length = cur.length := by
  have h8 := tc_len y
  refine ⟨?_, by simp only [List.length_append, List.length_take, List.length_drop, h8]; omega⟩
  have e1 : cur.take (0 + k * 8) = (ys.take k).flatMap tc := by
    rw [Nat.zero_add, ← fm8_take _ _ (by omega), ← h, List.take_take, Nat.min_eq_left (by omega)]
  have e2 : cur.drop (0 + k * 8 + (tc y).length) = (ys.drop (k + 1)).flatMap tc ++ cur.drop (ys.length * 8) := by
    rw [h8, show 0 + k * 8 + 8 = (k + 1) * 8 by omega]
    conv => lhs; rw [fm8_split h]
    rw [List.drop_append_of_le_length (by rw [fm8_len]; omega), fm8_drop _ _ (by omega)]
  rw [e1, e2, ← List.append_assoc, List.set_eq_take_append_cons_drop, if_pos hk, List.flatMap_append, List.flatMap_cons, ← List.append_assoc]
  exact List.take_left' (by simp only [List.length_append, fm8_len, List.length_take, List.length_drop, List.length_cons, h8]; omega)
/-- The last one, set. -/
theorem s_ownput {n : Nat} {l : List (Nat × Value)} {w : World} {a : Act} {ops : Array Oper} {Q : Exit → Act → World → Prop} {rest : List Oper} {ty : TypeId} {pos : String} {af : Array Edge} {x y : Operand} {base o m cap : Nat} {zs : List C8} {z0 z : C8} {ds : List Deferred} (F : Fs n a l (ds := ds)) (hx : ov l x = some (.pointer (some ⟨o, 0 + m * 8, none⟩))) (hy : ov l y = some (tv z)) (hm : zs.length = m)
    (hO : w.ownsRow base 27 8 (.slice (some ⟨o, 0, none⟩) (m + 1) cap) (m + 1) (zs.flatMap tc ++ tc z0)) (h1 : ∀ u ∈ tc z, u.oneCell' = true)
    (h : ∀ w', w'.ownsRow base 27 8 (.slice (some ⟨o, 0, none⟩) (m + 1) cap) (m + 1) (zs.flatMap tc ++ tc z) → Only o w w' → wpList Try.prog ops Q rest a w') : wpList Try.prog ops Q (⟨none, .store 27 x y, ty, pos, af, none⟩ :: rest) a w := by
  obtain ⟨q, cap9, cur, hv, hq, mq, hc1, hc2, hc3, hc4⟩ := own_blk hO (by omega)
  cases hv
  have hcz : (zs ++ [z0]).flatMap tc = zs.flatMap tc ++ tc z0 := by simp
  have hcu : cur.take ((zs ++ [z0]).length * 8) = (zs ++ [z0]).flatMap tc := by rw [hcz, ← hc4, List.length_append, hm]; rfl
  have hst := fm8_set (y := z) (k := m) hcu (by simp; omega) (by simp; omega)
  refine s_putP F hx hy (size_wide wide27) mq (by have := tc_len z; omega) h1 fun w' m' o' => h w' ?_ o'
  refine own_of hq m' hc1 hc2 (by rw [hst.2]; exact hc3) ?_
  have h3 := hst.1
  have h4 : (zs ++ [z0]).set m z = zs ++ [z] := by
    rw [List.set_append_right _ _ (by omega), show m - zs.length = 0 by omega]; rfl
  rw [h4] at h3
  simpa [hm] using h3
theorem rev_ext {α : Type} {xs ys : List α} (hl : ys.length = xs.length) (h : ∀ k, k < xs.length → ys[k]? = xs[xs.length - 1 - k]?) : ys = xs.reverse := by
 apply List.ext_getElem?
 intro k
 by_cases hk : k < xs.length
 ·
  rw [h k hk, List.getElem?_reverse hk]
 ·
  rw [List.getElem?_eq_none (by omega), List.getElem?_eq_none (by simp; omega)]
theorem swp_get {α : Type} {xs ys : List α} {i : Nat} {y z : α} (hl : ys.length = xs.length) (hi : 2 * i + 1 < xs.length) (h : ∀ k, k < xs.length → ys[k]? = if k < i ∨ xs.length - 1 - i < k then xs[xs.length - 1 - k]? else xs[k]?) (hy : ys[i]? = some y) (hz : ys[xs.length - 1 - i]? = some z) :
    ∀ k, k < xs.length → ((ys.set i z).set (xs.length - 1 - i) y)[k]? = if k < i + 1 ∨ xs.length - 1 - (i + 1) < k then xs[xs.length - 1 - k]? else xs[k]? := by
  intro k hk
  have h1 := h i (by omega)
  have h2 := h (xs.length - 1 - i) (by omega)
  rw [if_neg (by omega)] at h1 h2
  by_cases e1 : k = xs.length - 1 - i
  · subst e1
    rw [List.getElem?_set_self (by simp; omega), if_pos (by omega), show xs.length - 1 - (xs.length - 1 - i) = i by omega, ← h1, hy]
  · rw [List.getElem?_set_ne (by omega)]
    by_cases e2 : k = i
    · subst e2
      rw [List.getElem?_set_self (by omega), if_pos (by omega), ← h2, hz]
    · rw [List.getElem?_set_ne (by omega), h k hk]
      by_cases e3 : k < i ∨ xs.length - 1 - i < k
      · rw [if_pos e3, if_pos (by omega)]
      · rw [if_neg e3, if_neg (by omega)]
theorem Reverse69 (w0 : World) (base o : Nat) (a0 : Option Addr) (cap : Nat) (xs : List C8) (hO0 : w0.ownsRow base 27 8 (.slice a0 xs.length cap) xs.length (xs.flatMap tc)) (hat : ∀ j, (Value.slice a0 xs.length cap).ownBlock = some j → j = o) (h1 : ∀ x ∈ xs, ∀ u ∈ tc x, u.oneCell' = true) (hn : xs.length ≤ 100000000) : Calls Try.prog 55 #[.slice a0 xs.length cap] w0 fun e w' => ∃ u, e = .returned u ∧ w'.ownsRow base 27 8 (.slice a0 xs.length cap) xs.length (xs.reverse.flatMap tc) ∧ Ktw o o w0 w' := by
 have hK := Ktw.refl o o w0
 have sK := hK.size
 refine calls_fs 28 [(0, .slice a0 xs.length cap)] Try.func55 rfl rfl rfl rfl rfl fun a F => ?_
 refine wp_rs fun _ K1 => F.mv rfl fun a F => F.vl (x_len Try.underlying25 rfl) fun a F => F.vl (x_sub (by omega) (by omega) rfl rfl) fun a F => F.sg rfl fun a F => F.sg rfl fun a F => ?_
 refine s_end (K1 _ _ ?_)
 refine wp_block ?_
 have he0 : (xs.length : Int) - 1 = (xs.length : Int) - 1 - ((0 : Nat) : Int) := by omega
 rw [he0] at F
 refine wp_up (xs.length / 2) (fun i a w => ∃ ys : List C8, w.ownsRow base 27 8 (.slice a0 xs.length cap) xs.length (ys.flatMap tc) ∧ ys.length = xs.length ∧ (∀ k, k < xs.length → ys[k]? = if k < i ∨ xs.length - 1 - i < k then xs[xs.length - 1 - k]? else xs[k]?) ∧ (∀ x ∈ ys, ∀ u ∈ tc x, u.oneCell' = true) ∧ Ktw o o w0 w ∧ Fs 28 a [(0, .slice a0 xs.length cap), (2, .int .i64 (i : Int)), (3, .int .i64 ((xs.length : Int) - 1 - (i : Int)))]) ⟨xs, hO0, rfl, fun k hk => by rw [if_neg (by omega)], h1, hK, F.sub _ rfl⟩ ?_
 repeat clear F
 clear hK
 rintro i a w hi ⟨ys, hO, hyl, hys, h1y, hK, F⟩ K' hK'
 have sK := hK.size
 refine wp_seq_k fun _ K2 => ?_
 refine wp_rs fun _ K3 => F.mv rfl fun a F => F.mv rfl fun a F => F.vl (x_lss (b := decide (i < xs.length / 2)) (decide_eq_decide.2 (by omega)) rfl rfl) fun a F => ?_
 refine s_end (K3 _ _ ?_)
 refine wp_iff F rfl (fun hc9 => ?_) (fun hc9 => ?_)
 ·
  obtain ⟨q, cap9, cur, hv, hq, mq, hc1, hc2, hc3, hc4⟩ := own_blk hO (by omega)
  cases hv
  obtain rfl := hat q rfl
  rw [← hyl] at hc4
  have hql := mq.lt
  obtain ⟨y1, hy1⟩ : ∃ y, ys[i]? = some y := ⟨_, List.getElem?_eq_getElem (by omega)⟩
  obtain ⟨y2, hy2⟩ : ∃ y, ys[xs.length - 1 - i]? = some y := ⟨_, List.getElem?_eq_getElem (by omega)⟩
  have hsw := swp_get hyl (by omega) hys hy1 hy2
  have hr1 := fm8_read hc4 hy1
  have hr2 := fm8_read hc4 hy2
  have hs1 := fm8_set (y := y2) (k := i) hc4 (by omega) (by omega)
  have h8 := tc_len y1
  have h82 := tc_len y2
  have hs2 := fm8_set (y := y1) (k := xs.length - 1 - i) hs1.1 (by simp; omega) (by rw [hs1.2]; simp; omega)
  have hx1 := h1y y1 (List.mem_of_getElem? hy1)
  have hx2 := h1y y2 (List.mem_of_getElem? hy2)
  refine wp_skip (K2 _ _ ?_)
  refine wp_seq_k fun _ K4 => ?_
  refine wp_block ?_
  refine dk2_one (q) (q) (ops := regOps Try.f55 3) (N := 16) (by kernel_rfl) wide_orders (by kernel_rfl) fun w2 hw2 B3 hS K5 hK5 => ?_
  have zw2 : w2.heap.size = w.heap.size := by rw [hw2]
  have sB3 := B3.size
  have hK := hK.below B3
  have mq := mq.old B3
  have mq_d := mq
  have hK_d := hK
  refine F.dv 0 14 (.move (.tmp 0)) hS (fun W hW => x_move rfl) fun a F => F.dv 1 15 (.move (.tmp 2)) hS (fun W hW => x_move rfl) fun a F => F.dv 2 16 (.move (.tmp 0)) hS (fun W hW => x_move rfl) fun a F => F.dv 3 17 (.move (.tmp 3)) hS (fun W hW => x_move rfl) fun a F => F.dv 4 18 (.move (.tmp 0)) hS (fun W hW => x_move rfl) fun a F => F.dv 5 19 (.move (.tmp 3)) hS (fun W hW => x_move rfl) fun a F => F.dv 6 20 (.indexAddr 25 (.tmp 18) (.tmp 19)) hS (fun W hW => x_ixa rfl rfl (m_ixsK (xs.length - 1 - i) Try.underlying25 el25.size (by omega) (by omega))) fun a F => F.dv 8 22 (.move (.tmp 0)) hS (fun W hW => x_move rfl) fun a F => F.dv 9 23 (.move (.tmp 2)) hS (fun W hW => x_move rfl) fun a F => F.dv 10 24 (.indexAddr 25 (.tmp 22) (.tmp 23)) hS (fun W hW => x_ixa rfl rfl (m_ixsK (i) Try.underlying25 el25.size rfl (by omega))) fun a F => ?_
  refine d_two 7 11 (by kernel_rfl) ?_ ?_
  ·
   refine d_op 7 (some 21) (.load 27 (.tmp 20)) (by kernel_rfl) fun ty pos af => ?_
   refine F.vl (x_load rfl (m_loadP (vs := tc y2) wide27 mq hr2)) fun a F => ?_
   refine s_end ⟨hS, ?_⟩
   refine d1 11 (some 25) (.load 27 (.tmp 24)) fun ty pos af => ?_
   refine F.vl (x_load rfl (m_loadP (vs := tc y1) wide27 mq hr1)) fun a F => ?_
   refine s_end ⟨hS, ?_⟩
   refine F.dv 12 26 (.indexAddr 25 (.tmp 14) (.tmp 15)) hS (fun W hW => x_ixa rfl rfl (m_ixsK (i) Try.underlying25 el25.size rfl (by omega))) fun a F => ?_
   refine d1 13 none (.store 27 (.tmp 26) (.tmp 21)) fun ty pos af => ?_
   refine s_putP F rfl rfl (size_wide wide27) mq (by first | omega | (rw [hs1.2]; omega)) hx2 fun w4 mq o5 => ?_
   have so5 := o5.size
   have hK := hK.only o5 (by omega)
   have hS := hS.only o5 (by omega)
   refine s_end ⟨hS, ?_⟩
   refine F.dv 14 27 (.indexAddr 25 (.tmp 16) (.tmp 17)) hS (fun W hW => x_ixa rfl rfl (m_ixsK (xs.length - 1 - i) Try.underlying25 el25.size (by omega) (by omega))) fun a F => ?_
   refine d1 15 none (.store 27 (.tmp 27) (.tmp 25)) fun ty pos af => ?_
   refine s_putP F rfl rfl (size_wide wide27) mq (by first | omega | (rw [hs1.2]; omega)) hx1 fun w6 mq o7 => ?_
   have so7 := o7.size
   have hK := hK.only o7 (by omega)
   have hS := hS.only o7 (by omega)
   refine s_end ⟨hS, ?_⟩
   refine d_end (by kernel_rfl) (hK5 _ _ ?_)
   refine K4 _ _ ?_
   refine wp_region_lit ?_
   refine F.mv rfl fun a F => F.vl (x_addn (i + 1) (by omega) (by omega) rfl rfl) fun a F => F.mv rfl fun a F => F.vl (x_sub (by omega) (by omega) rfl rfl) fun a F => F.sg rfl fun a F => F.sg rfl fun a F => ?_
   have he3 : (xs.length : Int) - 1 - (i : Int) - 1 = (xs.length : Int) - 1 - ((i + 1 : Nat) : Int) := by omega
   rw [he3] at F
   refine s_end (hK' _ _ (by omega) ⟨(ys.set i y2).set (xs.length - 1 - i) y1, own_of hq mq hc1 hc2 (by rw [hs2.2, hs1.2]; exact hc3) (by have h3 := hs2.1; simp only [List.length_set, hyl] at h3; exact h3), by simp [hyl], hsw, fun x hx => by rcases List.mem_or_eq_of_mem_set hx with hx | rfl; (· rcases List.mem_or_eq_of_mem_set hx with hx | rfl; (· exact h1y x hx); exact hx2); exact hx1, hK, F.sub _ rfl⟩)
  ·
   refine d_op 11 (some 25) (.load 27 (.tmp 24)) (by kernel_rfl) fun ty pos af => ?_
   refine F.vl (x_load rfl (m_loadP (vs := tc y1) wide27 mq hr1)) fun a F => ?_
   refine s_end ⟨hS, ?_⟩
   refine d1 7 (some 21) (.load 27 (.tmp 20)) fun ty pos af => ?_
   refine F.vl (x_load rfl (m_loadP (vs := tc y2) wide27 mq hr2)) fun a F => ?_
   refine s_end ⟨hS, ?_⟩
   refine F.dv 12 26 (.indexAddr 25 (.tmp 14) (.tmp 15)) hS (fun W hW => x_ixa rfl rfl (m_ixsK (i) Try.underlying25 el25.size rfl (by omega))) fun a F => ?_
   refine d1 13 none (.store 27 (.tmp 26) (.tmp 21)) fun ty pos af => ?_
   refine s_putP F rfl rfl (size_wide wide27) mq (by first | omega | (rw [hs1.2]; omega)) hx2 fun w8 mq o9 => ?_
   have so9 := o9.size
   have hK := hK.only o9 (by omega)
   have hS := hS.only o9 (by omega)
   refine s_end ⟨hS, ?_⟩
   refine F.dv 14 27 (.indexAddr 25 (.tmp 16) (.tmp 17)) hS (fun W hW => x_ixa rfl rfl (m_ixsK (xs.length - 1 - i) Try.underlying25 el25.size (by omega) (by omega))) fun a F => ?_
   refine d1 15 none (.store 27 (.tmp 27) (.tmp 25)) fun ty pos af => ?_
   refine s_putP F rfl rfl (size_wide wide27) mq (by first | omega | (rw [hs1.2]; omega)) hx1 fun w10 mq o11 => ?_
   have so11 := o11.size
   have hK := hK.only o11 (by omega)
   have hS := hS.only o11 (by omega)
   refine s_end ⟨hS, ?_⟩
   refine d_end (by kernel_rfl) (hK5 _ _ ?_)
   refine K4 _ _ ?_
   refine wp_region_lit ?_
   refine F.mv rfl fun a F => F.vl (x_addn (i + 1) (by omega) (by omega) rfl rfl) fun a F => F.mv rfl fun a F => F.vl (x_sub (by omega) (by omega) rfl rfl) fun a F => F.sg rfl fun a F => F.sg rfl fun a F => ?_
   have he3 : (xs.length : Int) - 1 - (i : Int) - 1 = (xs.length : Int) - 1 - ((i + 1 : Nat) : Int) := by omega
   rw [he3] at F
   refine s_end (hK' _ _ (by omega) ⟨(ys.set i y2).set (xs.length - 1 - i) y1, own_of hq mq hc1 hc2 (by rw [hs2.2, hs1.2]; exact hc3) (by have h3 := hs2.1; simp only [List.length_set, hyl] at h3; exact h3), by simp [hyl], hsw, fun x hx => by rcases List.mem_or_eq_of_mem_set hx with hx | rfl; (· rcases List.mem_or_eq_of_mem_set hx with hx | rfl; (· exact h1y x hx); exact hx2); exact hx1, hK, F.sub _ rfl⟩)
 ·
  have hi2 : i = xs.length / 2 := by omega
  have hrev : ys = xs.reverse := rev_ext hyl (fun k hk => by rw [hys k hk]; by_cases e : k < i ∨ xs.length - 1 - i < k; (· rw [if_pos e]); rw [if_neg e, show xs.length - 1 - k = k by omega])
  rw [hrev] at hO
  refine wp_exit (exit_at ?_)
  exact post_normal (res_none F rfl ⟨_, rfl, hO, hK⟩)
end Go.Proofs.Ytbhhbfdoadecgaa

namespace Go.Proofs.Ytbhhbfdoadecgaa
set_option maxRecDepth 100000
set_option maxHeartbeats 1600000
open Go.RowKit Go.Shelf
set_option linter.unusedVariables false
set_option linter.unusedSimpArgs false
theorem CT.spL_size : ∀ (c : CT), c.spL.length ≤ c.size
 | .two k a b m => by
  have := a.spL_size
  have := b.size_pos
  by_cases hk : k = 6
  ·
   simp [CT.spL, hk, CT.size]; omega
  ·
   simp [CT.spL, hk, CT.size]
 | .lt .. => by simp [CT.spL, CT.size]
 | .var .. => by simp [CT.spL, CT.size]
 | .sort .. => by simp [CT.spL, CT.size]
 | .cst .. => by simp [CT.spL, CT.size]
 | .odd .. => by simp [CT.spL, CT.size]
theorem QT.rev {W : World} {A : Nat → Prop} {zs : List C8} {ps : List PT} (h : QT W A zs ps) : QT W A zs.reverse ps.reverse := by
 refine ⟨by simp [h.1], fun j z p e1 e2 => ?_⟩
 have hj : j < zs.length := by have := (List.getElem?_eq_some_iff.1 e1).1; simpa using this
 rw [List.getElem?_reverse hj] at e1
 rw [List.getElem?_reverse (by rw [← h.1]; exact hj), ← h.1] at e2
 exact h.2 _ z p e1 e2
def Hid (p : Prop) : Prop := p
def spN (s : Nat × Bool) : Nat := if s.2 then s.1 + 1 else s.1
/-- What holds between the rounds of Spine's loop. -/
structure SpI (w0 : World) (A : Nat → Prop) (c : CT) (b1 b2 b4 b5 b6 br p : Nat) (s : Nat × Bool) (W : World) : Prop where
 k : spKx w0 A c b1 s W
 m2 : Blk W b2 27 z8
 m4 : Blk W b4 66 [.pointer (some ⟨br, 0, none⟩)]
 hR : Room W br
 m5 : ∃ yh, Blk W b5 27 (tc yh) ∧ (s.2 = true → ∃ ch, c.spL[s.1]? = some ch ∧ RC w0 A ch yh)
 row : ∃ vv zs, W.ownsRow w0.heap.size 27 8 vv zs.length (zs.flatMap tc) ∧ (∀ j, vv.ownBlock = some j → p + 2 ≤ j) ∧ QT W (fun k => (((k < w0.heap.size ∧ A k) ∨ p + 2 ≤ k) ∧ vv.ownBlock ≠ some k) ∧ k < W.heap.size) zs ((c.spA.take (spN s)).map CT.ess) ∧ Blk W b6 25 [vv]
section
variable {w0 W W' : World} {A : Nat → Prop} {c : CT} {b1 b2 b4 b5 b6 br p : Nat} {s : Nat × Bool}
theorem spKx.old {b1 : Nat} (h : spKx w0 A c b1 s W) (hB : Below W.heap.size W W') : spKx w0 A c b1 s W' := let ⟨ci, yi, e1, e2, e3⟩ := h; ⟨ci, yi, e1, e2.old hB, e3⟩
theorem SpI.old (h : SpI w0 A c b1 b2 b4 b5 b6 br p s W) (hB : Below W.heap.size W W') : SpI w0 A c b1 b2 b4 b5 b6 br p s W' := by
 obtain ⟨h1, h2, h3, h4, ⟨yh, h5, h6⟩, vv, zs, h7, h8, h9, h10⟩ := h
 exact ⟨h1.old hB, h2.old hB, h3.old hB, h4.below hB, ⟨yh, h5.old hB, h6⟩, vv, zs, own_below h7 hB, h8, (h9.below hB).mono (fun k hk => ⟨hk.1, Nat.lt_of_lt_of_le hk.2 hB.size⟩), h10.old hB⟩
/-- A block that is none of its own. -/
theorem SpI.only {x : Nat} (h : SpI w0 A c b1 b2 b4 b5 b6 br p s W) (o : Only x W W') (hx : w0.heap.size ≤ x ∧ x < p + 2 ∧ x ≠ b2 ∧ x ≠ b4 ∧ x ≠ b5 ∧ x ≠ b6 ∧ x ≠ br) {s' : Nat × Bool} (hk : spKx w0 A c b1 s' W') (h5 : ∀ yh, (s.2 = true → ∃ ch, c.spL[s.1]? = some ch ∧ RC w0 A ch yh) → s'.2 = true → ∃ ch, c.spL[s'.1]? = some ch ∧ RC w0 A ch yh) (hN : spN s' = spN s) : SpI w0 A c b1 b2 b4 b5 b6 br p s' W' := by
 obtain ⟨g1, g2, g3, g4, ⟨yh, g5, g6⟩, vv, zs, g7, g8, g9, g10⟩ := h
 refine ⟨hk, g2.only o (by omega), g3.only o (by omega), g4.only o (by omega), ⟨yh, g5.only o (by omega), h5 yh g6⟩, vv, zs, own_only g7 o (fun e => by have := g8 _ e; omega), g8, ?_, g10.only o (by omega)⟩
 rw [hN]
 exact (g9.only o (fun k hk => by omega)).mono (fun k hk => ⟨hk.1, by rw [o.size]; exact hk.2⟩)
end
theorem spine67 (x : C8) (w0 : World) (h1x : ∀ u ∈ tc x, u.oneCell' = true) : Calls Try.prog 53 #[tv x] w0 fun e w' => ∃ v, e = .returned v ∧ (∃ b1, v = .func (.func 95) #[] #[.pointer (some ⟨b1, 0, none⟩)] ∧ w0.heap.size ≤ b1 ∧ Blk w' b1 27 (tc x)) ∧ Below w0.heap.size w0 w' := by
 have hB := Below.refl w0.heap.size w0
 have sB := hB.size
 refine calls_fs 4 [(0, tv x)] Try.func53 rfl rfl rfl rfl rfl fun a F => ?_
 refine wp_rs fun _ K1 => ?_
 refine s_box (tc x) F (by decide) rfl rfl fun w2 b1 a eb1 m1 B3 zb1 F => ?_
 have sB3 := B3.size
 have hB := bt hB B3
 refine F.sg rfl fun a F => ?_
 refine s_end (K1 _ _ ?_)
 refine wp_rs fun _ K2 => F.vl (x_mkf [_] rfl) fun a F => F.sg rfl fun a F => ?_
 refine s_end (K2 _ _ ?_)
 refine wp_ret (res_slot F rfl rfl ⟨_, rfl, ⟨b1, rfl, by omega, m1⟩, hB⟩)
theorem Spine27 (A : Nat → Prop) (c : CT) (x : C8) (w0 : World) (hA : ∀ k, A k → k < w0.heap.size) (hxA : RC w0 A c x) (hok : c.ok) : Calls Try.prog 21 #[tv x] w0 fun e w' => ∃ u, e = .returned u ∧ (∃ y v, u = .tuple #[tv y, v] ∧ RE w' (AS A w0.heap.size) c.spH.ess y ∧ RKE w' (AS A w0.heap.size) v (c.spA.reverse.map CT.ess)) ∧ Below w0.heap.size w0 w' := by
 have hx := hxA.mono hA
 have hsl := CT.spA_len c
 have hsz : c.spL.length ≤ 20000 := Nat.le_trans (CT.spL_size c) hok.1
 have hB := Below.refl w0.heap.size w0
 have sB := hB.size
 refine calls_fsM 37 [(0, tv x)] Try.func21 rfl rfl rfl rfl rfl fun a F => ?_
 refine wp_rs fun _ K1 => ?_
 refine s_box (tc x) F (by decide) rfl rfl fun w2 b1 a eb1 m1 B3 zb1 F => ?_
 have sB3 := B3.size
 have hB := bt hB B3
 refine s_alloc F (by decide) zero27 fun w4 b2 a eb2 m2 B5 zb2 F => ?_
 have sB5 := B5.size
 have hB := bt hB B5
 have m1 := m1.old B5
 refine F.sg rfl fun a F => ?_
 refine s_end (K1 _ _ ?_)
 refine wp_rs fun _ K2 => ?_
 refine s_callR (R := fun v w' => ∃ br, v = .pointer (some ⟨br, 0, none⟩) ∧ w4.heap.size ≤ br ∧ Blk w' br 110 [.int .i64 2147483647]) [] F E42 rfl (by decide) (newRoom56 w4) ?_
 rintro _ w6 a ⟨br, rfl, hbrw, mbr⟩ B7 F
 have sB7 := B7.size
 have hB := bt hB B7
 have m1 := m1.old B7
 have m2 := m2.old B7
 have hR : Room w6 br := ⟨_, mbr, by decide, by decide⟩
 have hbrl := hR.lt
 refine s_alloc1 F (by decide) zero64 rfl fun w8 b4 a eb4 m4 B9 zb4 F => ?_
 have sB9 := B9.size
 have hB := bt hB B9
 have m1 := m1.old B9
 have m2 := m2.old B9
 have hR := hR.below B9
 refine s_put F rfl rfl flat64 m4 (by first | (simp; done) | (simp [tc, lc]; done) | decide) rfl fun w10 m4 o11 => ?_
 have so11 := o11.size
 have hB := hB.trans (o11.below (by omega))
 have m1 := m1.only o11 (by omega)
 have m2 := m2.only o11 (by omega)
 have hR := hR.only o11 (by omega)
 refine s_end (K2 _ _ ?_)
 refine wp_seq_k fun _ K3 => ?_
 refine wp_rs fun _ K4 => F.vl (x_ldW wide27 m1 rfl rfl) fun a F => ?_
 refine s_callB [_] F E52 rfl (by decide) ((isGreat66 c x w10 (hx.bel hB)).mono fun e w' h => ⟨by rw [h.1, decide_eq_false (fun h => h hok)], h.2⟩) fun w12 a B13 F => ?_
 have sB13 := B13.size
 have hB := bt hB B13
 have m1 := m1.old B13
 have m2 := m2.old B13
 have m4 := m4.old B13
 have hR := hR.below B13
 refine s_end (K4 _ _ ?_)
 refine wp_if F rfl ?_
 refine wp_skip (K3 _ _ ?_)
 refine wp_rs fun _ K5 => ?_
 refine s_alloc F (by decide) zero27 fun w14 b5 a eb5 m5 B15 zb5 F => ?_
 have sB15 := B15.size
 have hB := bt hB B15
 have m1 := m1.old B15
 have m2 := m2.old B15
 have m4 := m4.old B15
 have hR := hR.below B15
 refine s_end (K5 _ _ ?_)
 refine wp_rs fun _ K6 => ?_
 refine s_alloc1 F (by decide) zero25 rfl fun w16 b6 a eb6 m6 B17 zb6 F => ?_
 have sB17 := B17.size
 have hB := bt hB B17
 have m1 := m1.old B17
 have m2 := m2.old B17
 have m4 := m4.old B17
 have m5 := m5.old B17
 have hR := hR.below B17
 refine s_end (K6 _ _ ?_)
 refine wp_seq_k fun _ K7 => ?_
 refine wp_rs fun _ K8 => F.vl (x_ldW wide27 m1 rfl rfl) fun a F => ?_
 refine s_callR (R := fun v w' => ∃ b1, v = .func (.func 95) #[] #[.pointer (some ⟨b1, 0, none⟩)] ∧ w16.heap.size ≤ b1 ∧ Blk w' b1 27 (tc x)) [_] F E53 rfl (by decide) (spine67 x w16 hx.one) ?_
 rintro v15 w18 a ⟨bx, hve, hbx, mx⟩ B19 F
 have sB19 := B19.size
 have hB := bt hB B19
 have m2 := m2.old B19
 have m4 := m4.old B19
 have m5 := m5.old B19
 have m6 := m6.old B19
 have hR := hR.below B19
 subst hve
 refine s_end (K8 _ _ ?_)
 refine wp_block ?_
 have sD := hB.size
 obtain ⟨p, hp⟩ : ∃ p, p = w18.heap.size := ⟨_, rfl⟩
 have hm2l := m2.lt
 have hm4l := m4.lt
 have hm5l := m5.lt
 have hm6l := m6.lt
 have hmxl := mx.lt
 have hbd : w0.heap.size ≤ b2 ∧ b2 < br ∧ br < b4 ∧ b4 < b5 ∧ b5 < b6 ∧ b6 < bx ∧ bx < p := ⟨by omega, by omega, by omega, by omega, by omega, by omega, by omega⟩
 refine wp_rangeX (w0 := w0) F rfl E95 hB (spine106x w0 A hA c bx (by omega)) (by decide) (by rintro s vs ⟨_, ci, yi, _, rfl, _⟩; rfl)
  (fun s W s' W' hs => by rcases hs with ⟨rfl, hB⟩ | ⟨_, rfl, ho, _⟩; (· exact ⟨hB.size, fun k hk hl => hB.block k hl⟩); exact ⟨Nat.le_of_eq ho.size.symm, fun k hk hl => ho.block k (by omega)⟩)
  (SpI w0 A c bx b2 b4 b5 b6 br p) (fun _ _ => False) (fun s W h => h.k)
  (fun s W s' W' h hs hz => by rcases hs with ⟨rfl, hB⟩ | ⟨h2, rfl, ho, hk⟩; (· exact h.old hB); exact h.only ho (by omega) hk (fun yh _ h => by cases h) (by unfold spN; rw [if_pos h2]; rfl))
  (fun s W W' h hB => h.old hB) (fun s W W' h o => h.only o (by omega) (let ⟨ci, yi, e1, e2, e3⟩ := h.k; ⟨ci, yi, e1, e2.only o (by omega), e3⟩) (fun _ h => h) rfl) (fun _ _ _ h _ => h.elim) (fun _ _ _ h _ => h.elim) (0, false) rfl
  ⟨⟨c, x, c.spL_zero, mx, hxA⟩, m2, m4, hR, ⟨⟨0, 0, emptyB, (0, 0, nilS), nilS, nilS⟩, m5, fun h => by cases h⟩, nilS, [], World.ownsRow_nil _ _ _ _, (fun j h => by cases h), by rw [show spN (0, false) = 0 from rfl, List.take_zero]; exact QT.nil, m6⟩ ?_ ?_ ?_
 ·
  rintro L s W a vs hL hv hI hWs hBr F K hK
  rw [← hp] at hWs
  obtain ⟨hfl, ci, yi, hci, rfl, hri⟩ := hv
  obtain ⟨i, fl⟩ := s
  simp only at hfl hci
  subst hfl
  obtain ⟨⟨cj, yj, hcj, m1, hrj⟩, m2, m4, hR, ⟨yh, m5, _⟩, vv, zs, hO, hOb, hP, m6⟩ := hI
  have hN0 : spN (i, false) = i := rfl
  rw [hN0] at hP
  have hBe := Below.refl w0.heap.size W
  have hD9 := Kd.refl p W
  have sBr := hBr.size
  have sBe := hBe.size
  obtain ⟨top, htop⟩ : ∃ h, h = W.heap.size := ⟨_, rfl⟩
  rw [← htop] at hP
  have hPl := hP.1
  rw [List.length_map, List.length_take] at hPl
  have hOt : ∀ j, vv.ownBlock = some j → p + 2 ≤ j ∧ j < top := fun j h => ⟨hOb j h, by rw [htop]; exact (hO.lt j h).2⟩
  obtain ⟨avv, cvv, hvv, _⟩ := (Rd.own hO).form
  subst hvv
  have h1y := hri.one
  have hil := (List.getElem?_eq_some_iff.1 hci).1
  have hPl2 : zs.length = i := by omega
  refine wpI_r (by repeat' first | exact rndPostX.calm | exact false.calm | refine Calm.then ?_ _ | refine Calm.block ?_ _) rfl ?_
  refine s_alloc F (by decide) zero27 fun w20 b7 a eb7 m7 B21 zb7 F => ?_
  have sB21 := B21.size
  have hBr := bt hBr B21
  have m1 := m1.old B21
  have m2 := m2.old B21
  have m4 := m4.old B21
  have m5 := m5.old B21
  have m6 := m6.old B21
  have hO := own_below hO B21
  have hP := hP.below B21
  have hR := hR.below B21
  have hBe := hBe.trans (B21.mono (by omega))
  have hD9 := hD9.below B21 (by omega)
  refine s_putW F rfl rfl (size_wide wide27) m7 rfl h1y fun w24 m7 o25 => ?_
  have so25 := o25.size
  have hBr := hBr.trans (o25.below (by omega))
  have m1 := m1.only o25 (by omega)
  have m2 := m2.only o25 (by omega)
  have m4 := m4.only o25 (by omega)
  have m5 := m5.only o25 (by omega)
  have m6 := m6.only o25 (by omega)
  have hO := own_only hO o25 (fun e => by have := hOt _ e; omega)
  have hP := hP.only o25 (fun k (hk : (((k < w0.heap.size ∧ A k) ∨ p + 2 ≤ k) ∧ (Value.slice avv zs.length cvv).ownBlock ≠ some k) ∧ k < top) => by omega)
  have hR := hR.only o25 (by omega)
  have hBe := hBe.trans (o25.below (by omega))
  have hD9 := hD9.only o25 (by omega)
  refine s_end ?_
  refine hK _ _ hBe (by rw [← hp]; exact hD9) fun W3 hO3 => ?_
  have sO := hO3.size
  have m1 := m1.only hO3 (by omega)
  have m2 := m2.only hO3 (by omega)
  have m4 := m4.only hO3 (by omega)
  have m5 := m5.only hO3 (by omega)
  have m6 := m6.only hO3 (by omega)
  have hR := hR.only hO3 (by omega)
  have m7 := m7.only hO3 (by omega)
  have hO := own_only hO hO3 (fun e => by have := hOt _ e; omega)
  have hP := hP.only hO3 (fun k (hk : (((k < w0.heap.size ∧ A k) ∨ p + 2 ≤ k) ∧ (Value.slice avv zs.length cvv).ownBlock ≠ some k) ∧ k < top) => by omega)
  have hBr := hBr.trans (hO3.below (by omega))
  have hBe := Below.refl w0.heap.size W3
  have hD9 := Kd.refl p W3
  have sBe := hBe.size
  have sBr := hBr.size
  refine wpIn_block ?_
  refine wpI_rs (by repeat' first | exact rndPostX.calm | exact false.calm | refine Calm.then ?_ _ | refine Calm.block ?_ _) rfl fun _ K9 => ?_
  refine F.vl (x_ldW wide27 m7 rfl rfl) fun a F => ?_
  refine s_putW F rfl rfl (size_wide wide27) m5 rfl h1y fun w28 m5 o29 => ?_
  have so29 := o29.size
  have hBr := hBr.trans (o29.below (by omega))
  have m1 := m1.only o29 (by omega)
  have m2 := m2.only o29 (by omega)
  have m4 := m4.only o29 (by omega)
  have m6 := m6.only o29 (by omega)
  have hO := own_only hO o29 (fun e => by have := hOt _ e; omega)
  have hP := hP.only o29 (fun k (hk : (((k < w0.heap.size ∧ A k) ∨ p + 2 ≤ k) ∧ (Value.slice avv zs.length cvv).ownBlock ≠ some k) ∧ k < top) => by omega)
  have m7 := m7.only o29 (by omega)
  have hR := hR.only o29 (by omega)
  have hBe := hBe.trans (o29.below (by omega))
  have hD9 := hD9.only o29 (by omega)
  refine s_end (K9 _ _ ?_)
  refine wpI_rs (by repeat' first | exact rndPostX.calm | exact false.calm | refine Calm.then ?_ _ | refine Calm.block ?_ _) rfl fun _ K10 => ?_
  refine F.vl (x_ldW wide27 m7 rfl rfl) fun a F => ?_
  refine s_callB [_] F E54 rfl (by decide) (isApplied68 ci yi A w0 w28 hri) fun w30 a B31 F => ?_
  have sB31 := B31.size
  have hBr := bt hBr B31
  have m1 := m1.old B31
  have m2 := m2.old B31
  have m4 := m4.old B31
  have m5 := m5.old B31
  have m6 := m6.old B31
  have hO := own_below hO B31
  have hP := hP.below B31
  have m7 := m7.old B31
  have hR := hR.below B31
  have hBe := hBe.trans (B31.mono (by omega))
  have hD9 := hD9.below B31 (by omega)
  refine s_end (K10 _ _ ?_)
  refine wpI_iff F rfl (fun hap => ?_) (fun hap => ?_)
  ·
   obtain ⟨k1, hk1, hsp1⟩ := CT.spA_get c ci i hci hap
   have hnx := (CT.spL_next c ci i hci).1 hap
   obtain ⟨av, nv, cv, hts, hle9, hlen9, hcap, hkid⟩ := hri.kids
   obtain ⟨xk, xn, xs, xl, xls, xts⟩ := yi
   simp only at hts
   subst hts
   obtain ⟨b9, off9, c9, y, kd, hve, hyk, hry, hAb, hbl, hrow⟩ := hkid.row (i := 1) (List.getElem?_eq_some_iff.1 hk1).1
   cases hve
   obtain rfl : kd = k1 := by rw [hk1] at hyk; exact (Option.some.inj hyk).symm
   have hk1l : 1 < ci.kids.length := (List.getElem?_eq_some_iff.1 hk1).1
   have hlz : i < c.spA.length := (List.getElem?_eq_some_iff.1 hsp1).1
   have htk : (c.spA.take (i + 1)).map CT.ess = (c.spA.take i).map CT.ess ++ [kd.ess] := by rw [take_snoc hsp1, List.map_append]; rfl
   obtain ⟨o9, hat9, ho9⟩ : ∃ o, (∀ j, (Value.slice avv zs.length cvv).ownBlock = some j → j = o) ∧ (p + 2 ≤ o ∧ o ≠ b7) := by
    cases hv9 : (Value.slice avv zs.length cvv).ownBlock with
    | none => exact ⟨w30.heap.size, (fun j h => by cases h), by omega⟩
    | some j => exact ⟨j, (fun i h => by cases h; rfl), by have := hOt j hv9; omega⟩
   have hfin : ∀ j, (Value.slice avv zs.length cvv).ownBlock = some j → j < w30.heap.size := fun j h => by have := hOt j h; omega
   have hnon : (Value.slice avv zs.length cvv).ownBlock = none → Hid (o9 = o9) := fun _ => rfl
   refine dli_region (br) (o9) 12 (ops := regOps Try.f21 10) (N := 13) (by kernel_rfl) wide_orders (by kernel_rfl) fun w32 hw32 B33 hS K11 hK11 => ?_
   have zw32 : w32.heap.size = w30.heap.size := by rw [hw32]
   have sB33 := B33.size
   have hBr := bt hBr B33
   have m1 := m1.old B33
   have m2 := m2.old B33
   have m4 := m4.old B33
   have m5 := m5.old B33
   have m6 := m6.old B33
   have hO := own_below hO B33
   have hP := hP.below B33
   have m7 := m7.old B33
   have hR := hR.below B33
   have hBe := hBe.trans (B33.mono (by omega))
   have hD9 := hD9.below B33 (by omega)
   have m1_d := m1
   have m2_d := m2
   have m4_d := m4
   have m5_d := m5
   have m6_d := m6
   have hR_d := hR
   have hO_d := hO
   have hP_d := hP
   have m7_d := m7
   have hBe_d := hBe
   have hBr_d := hBr
   have hD9_d := hD9
   refine dl_val 0 20 (op := (.load 25 (.tmp 6))) F hS (by kernel_rfl) (fun W hW => x_load rfl (m_load flat25 ((m6_d.k2 hW (by omega)).cell (j := 0) rfl))) (by kernel_rfl) (by kernel_rfl) (by decide) fun a F => ?_
   refine dl_val 1 21 (op := (.load 66 (.tmp 4))) F hS (by kernel_rfl) (fun W hW => x_load rfl (m_load flat64 ((m4_d.k2 hW (by omega)).cell (j := 0) rfl))) (by kernel_rfl) (by kernel_rfl) (by decide) fun a F => ?_
   refine dl_val 2 22 (op := (.fieldAddr 27 (.tmp 7) 5)) F hS (by kernel_rfl) (fun W hW => x_fa0 fa27_5 rfl) (by kernel_rfl) (by kernel_rfl) (by decide) fun a F => ?_
   refine dl_val 3 23 (op := (.load 25 (.tmp 22))) F hS (by kernel_rfl) (fun W hW => x_load rfl (m_load flat25 ((m7_d.k2 hW (by omega)).cell (j := 7) rfl))) (by kernel_rfl) (by kernel_rfl) (by decide) fun a F => ?_
   refine dl_val 4 24 (op := (.indexAddr 25 (.tmp 23) (.const (.int .i64 1)))) F hS (by kernel_rfl) (fun W hW => x_ixa rfl rfl (m_ixsK 1 Try.underlying25 el25.size rfl (by omega))) (by kernel_rfl) (by kernel_rfl) (by decide) fun a F => ?_
   refine dl_val 5 25 (op := (.load 27 (.tmp 24))) F hS (by kernel_rfl) (fun W hW => x_ldA wide27 (hrow _ ((hW.under hBr_d (by omega)).block _ hbl)) rfl rfl) (by kernel_rfl) (by kernel_rfl) (by decide) fun a F => ?_
   refine dl_val 7 27 (op := (.call (.mk (.builtin .len) #[(.tmp 20)] #[25]))) F hS (by kernel_rfl) (fun W hW => x_len Try.underlying25 rfl) (by kernel_rfl) (by kernel_rfl) (by decide) fun a F => ?_
   refine dl_two 6 8 (by kernel_rfl) ?_ ?_
   ·
    refine d_op 6 (some 26) (.call (.mk (.value (.func 43)) #[(.tmp 21), (.tmp 25)] #[66, 27])) (by kernel_rfl) fun ty pos af => ?_
    refine s_call (R := fun u w' => ((∃ z, u = tv z ∧ REx w' (AS A w32.heap.size) kd.ess z) ∧ Room w' br) ∧ Ktw br br w32 w') F [_, _] E43 rfl (by decide) (owned57 w32 br (by omega) A (fun k hk => by have := hA k hk; omega) kd y (hry.keep hBr.size (fun k hk hb => hBr.block k (hA k hk))) hR) ?_
    rintro _ w34 a ⟨⟨⟨z, rfl, hz0⟩, hR⟩, k35⟩ F
    have sk35 := k35.size
    have hBe := below_k2 hBe k35 (by omega)
    have hD9 := hD9.k2 k35 (by omega)
    have m1 := m1.k2 k35 (by omega)
    have m2 := m2.k2 k35 (by omega)
    have m4 := m4.k2 k35 (by omega)
    have m5 := m5.k2 k35 (by omega)
    have m6 := m6.k2 k35 (by omega)
    have hO := own_k2 hO k35 (fun c hc => by have := hOt c hc; omega)
    have hP := hP.k2 k35 (fun k (hk : (((k < w0.heap.size ∧ A k) ∨ p + 2 ≤ k) ∧ (Value.slice avv zs.length cvv).ownBlock ≠ some k) ∧ k < top) => by omega)
    have hS := hS.trans k35 (by omega)
    have hz := RE.valid hz0
    clear hz0
    have hz : REx w34 (fun k => ((k < w0.heap.size ∧ A k) ∨ w32.heap.size ≤ k) ∧ k < w34.heap.size) kd.ess z := hz.mono (fun k hk => ⟨hk.1.elim (fun h => .inl ⟨hA k h, h⟩) .inr, hk.2⟩)
    have h1z := RE.one hz
    refine s_end ⟨fun _ => hS, ?_⟩
    refine dl_one 8 (some 28) (.buildSlice 25 1 #[(0, (.const (.agg #[(.int .i64 0), (.int .i64 0), (.string (ByteArray.mk #[])), (.int .i64 0), (.int .i64 0), (.slice none 0 0), (.slice none 0 0), (.slice none 0 0)])))]) (by kernel_rfl) (by kernel_rfl) fun ty pos af => ?_
    refine s_litG [tv ⟨0, 0, emptyB, (0, 0, nilS), nilS, nilS⟩] el25 F (by decide) rfl (by simp [Value.cells, tc]) rfl (by decide) (by decide) fun w36 bl a ebl ml B37 zbl F => ?_
    have sB37 := B37.size
    have m1 := m1.old B37
    have m2 := m2.old B37
    have m4 := m4.old B37
    have m5 := m5.old B37
    have m6 := m6.old B37
    have hO := own_below hO B37
    have hP := hP.below B37
    have hz := hz.below B37
    have hS := hS.below B37
    have hR := hR.below B37
    have hBe := hBe.trans (B37.mono (by omega))
    have hD9 := hD9.below B37 (by omega)
    have ml : Blk w36 bl 27 (tc ⟨0, 0, emptyB, (0, 0, nilS), nilS, nilS⟩) := by simpa [Value.cells] using ml
    refine s_end ⟨fun _ => hS, ?_⟩
    refine dl_one 9 (some 29) (.call (.mk (.builtin .append) #[(.tmp 20), (.tmp 28)] #[25, 25])) (by kernel_rfl) (by kernel_rfl) fun ty pos af => ?_
    obtain ⟨o2, hat, ho2, hno, hzno, hSx⟩ : ∃ o, (∀ j, (Value.slice avv zs.length cvv).ownBlock = some j → j = o) ∧ (p + 2 ≤ o ∧ o < w36.heap.size) ∧ (∀ k, k < top → (Value.slice avv zs.length cvv).ownBlock ≠ some k → k ≠ o) ∧ (∀ k, (((k < w0.heap.size ∧ A k) ∨ w32.heap.size ≤ k) ∧ k < w34.heap.size) → k ≠ o) ∧ Hid (o = o9 ∨ w32.heap.size ≤ o) := by
     cases hv9 : (Value.slice avv zs.length cvv).ownBlock with
     | none => exact ⟨bl, (fun j h => by cases h), by omega, (fun k hk _ => by omega), (fun k hk => by omega), by unfold Hid; omega⟩
     | some j => exact ⟨j, (fun i h => by cases h; rfl), by have := hOt j hv9; omega, (fun k _ hk e => hk (by rw [e])), (fun k hk => by have := hOt j hv9; omega), .inl (hat9 j hv9)⟩
    have hP9 : QT w36 (fun k => ((k < w0.heap.size ∧ A k) ∨ p + 2 ≤ k) ∧ k ≠ o2 ∧ k < top) zs ((c.spA.take i).map CT.ess) := hP.mono (fun k hk => ⟨hk.1.1, hno k hk.2 hk.1.2, hk.2⟩)
    have hz9 : REx w36 (fun k => (((k < w0.heap.size ∧ A k) ∨ w32.heap.size ≤ k) ∧ k < w34.heap.size) ∧ k ≠ o2) kd.ess z := RE.mono (fun k hk => ⟨hk, hzno k hk⟩) hz
    clear hP hz hno hzno
    have hP := hP9
    have hz := hz9
    clear hP9 hz9
    refine s_appL (o := o2) el25 F (by decide) rfl rfl hO ml rfl (one_tc0 _ _ _ _ rfl) hat (by omega) (by omega) (by decide) (by omega) fun v3 w38 a o3 hOn hOatn how hsrc k39 hkeep F => ?_
    have sk39 := k39.size
    have m1 := m1.k2 k39 (by omega)
    have m2 := m2.k2 k39 (by omega)
    have m4 := m4.k2 k39 (by omega)
    have m5 := m5.k2 k39 (by omega)
    have m6 := m6.k2 k39 (by omega)
    have hP := hP.k2 k39 (fun k (hk : ((k < w0.heap.size ∧ A k) ∨ p + 2 ≤ k) ∧ k ≠ o2 ∧ k < top) => by omega)
    have hz := hz.k2 k39 (fun k (hk : (((k < w0.heap.size ∧ A k) ∨ w32.heap.size ≤ k) ∧ k < w34.heap.size) ∧ k ≠ o2) => by omega)
    have hS := hS.trans k39 (by have h := hSx; unfold Hid at h; omega)
    have hO := hOn
    have hO_at := hOatn
    have hR := hR.k2 k39 (by omega)
    have hBe := below_k2 hBe k39 (by omega)
    have hD9 := hD9.k2 k39 (by omega)
    obtain ⟨q3, cap3, cur3, hv3, _⟩ := own_blk hO (by omega)
    subst hv3
    obtain rfl := hO_at q3 rfl
    clear hO_at
    have hO_at2 : ∀ j, (Value.slice (some ⟨q3, 0, none⟩) (zs.length + 1) cap3).ownBlock = some j → j = q3 := fun j h => by simp [Value.ownBlock] at h; exact h.symm
    have hq3b : p + 2 ≤ q3 := by omega
    have hP9 := hP.mono (fun k hk => (⟨hk.1, by omega, hk.2.2⟩ : ((k < w0.heap.size ∧ A k) ∨ p + 2 ≤ k) ∧ k ≠ q3 ∧ k < top))
    have hz9 : REx w38 (fun k => (((k < w0.heap.size ∧ A k) ∨ w32.heap.size ≤ k) ∧ k < w34.heap.size) ∧ k ≠ q3) kd.ess z := RE.mono (fun k hk => ⟨hk.1, by omega⟩) hz
    have hSq : Hid (q3 = o9 ∨ w32.heap.size ≤ q3) := by have h := hSx; unfold Hid at h ⊢; omega
    clear hP hz how
    have hP := hP9
    have hz := hz9
    clear hP9 hz9
    refine s_end ⟨fun _ => hS, ?_⟩
    refine dl_vala 10 30 (op := (.indexAddr 25 (.tmp 29) (.tmp 27))) F (fun _ => hS) (by kernel_rfl) (fun W => x_ixa rfl rfl (m_ixsK zs.length Try.underlying25 el25.size rfl (by omega))) (by kernel_rfl) (by kernel_rfl) (by decide) fun a F => ?_
    refine dl_two 11 12 (by kernel_rfl) ?_ ?_
    ·
     refine d_op 11 none (.store 27 (.tmp 30) (.tmp 26)) (by kernel_rfl) fun ty pos af => ?_
     refine s_ownput (m := zs.length) (zs := zs) (z0 := ⟨0, 0, emptyB, (0, 0, nilS), nilS, nilS⟩) (z := z) (o := q3) (cap := cap3) (base := w0.heap.size) F rfl rfl rfl hO h1z fun w40 hO o41 => ?_
     have so41 := o41.size
     have m1 := m1.only o41 (by omega)
     have m2 := m2.only o41 (by omega)
     have m4 := m4.only o41 (by omega)
     have m5 := m5.only o41 (by omega)
     have m6 := m6.only o41 (by omega)
     have hP := hP.only o41 (fun k (hk : ((k < w0.heap.size ∧ A k) ∨ p + 2 ≤ k) ∧ k ≠ q3 ∧ k < top) => by omega)
     have hz := hz.only o41 (fun k (hk : (((k < w0.heap.size ∧ A k) ∨ w32.heap.size ≤ k) ∧ k < w34.heap.size) ∧ k ≠ q3) => by omega)
     have hS := hS.only o41 (by have h := hSq; unfold Hid at h; omega)
     have hR := hR.only o41 (by omega)
     have hBe := hBe.trans (o41.below (by omega))
     have hD9 := hD9.only o41 (by omega)
     refine s_end ⟨fun _ => hS, ?_⟩
     refine dl_one 12 none (.store 25 (.tmp 6) (.tmp 29)) (by kernel_rfl) (by kernel_rfl) fun ty pos af => ?_
     refine s_put F rfl rfl flat25 m6 (by first | (simp; done) | decide) rfl fun w42 m6 o43 => ?_
     have so43 := o43.size
     have m1 := m1.only o43 (by omega)
     have m2 := m2.only o43 (by omega)
     have m4 := m4.only o43 (by omega)
     have m5 := m5.only o43 (by omega)
     have hO := own_only hO o43 (fun e => by have := hO_at2 _ e; omega)
     have hP := hP.only o43 (fun k (hk : ((k < w0.heap.size ∧ A k) ∨ p + 2 ≤ k) ∧ k ≠ q3 ∧ k < top) => by omega)
     have hz := hz.only o43 (fun k (hk : (((k < w0.heap.size ∧ A k) ∨ w32.heap.size ≤ k) ∧ k < w34.heap.size) ∧ k ≠ q3) => by omega)
     have hR := hR.only o43 (by omega)
     have hBe := hBe.trans (o43.below (by omega))
     have hD9 := hD9.only o43 (by omega)
     refine s_end ⟨not_lst (by kernel_rfl), ?_⟩
     refine dl_end (by kernel_rfl) (hK11 _ _ ?_)
     exact ⟨hBe, by rw [← hp]; exact hD9, (i, true), rfl, ⟨cj, _, hcj, m1, hrj⟩, m2, m4, hR, ⟨_, m5, fun _ => ⟨ci, hci, hri⟩⟩, _, zs ++ [z], by rw [fm8_app]; simpa using hO, (fun j h => by have := hO_at2 j h; omega), by rw [show spN (i, true) = i + 1 from rfl, htk]; exact (hP.mono (fun k (hk : ((k < w0.heap.size ∧ A k) ∨ p + 2 ≤ k) ∧ k ≠ q3 ∧ k < top) => ⟨⟨hk.1, fun e => by have := hO_at2 k e; omega⟩, by omega⟩)).snoc (RE.mono (fun k (hk : (((k < w0.heap.size ∧ A k) ∨ w32.heap.size ≤ k) ∧ k < w34.heap.size) ∧ k ≠ q3) => ⟨⟨hk.1.1.elim .inl (fun h => .inr (by omega)), fun e => by have := hO_at2 k e; omega⟩, by omega⟩) hz), m6⟩
    ·
     refine d_op 12 none (.store 25 (.tmp 6) (.tmp 29)) (by kernel_rfl) fun ty pos af => ?_
     refine s_put F rfl rfl flat25 m6 (by first | (simp; done) | decide) rfl fun w44 m6 o45 => ?_
     have so45 := o45.size
     have m1 := m1.only o45 (by omega)
     have m2 := m2.only o45 (by omega)
     have m4 := m4.only o45 (by omega)
     have m5 := m5.only o45 (by omega)
     have hO := own_only hO o45 (fun e => by have := hO_at2 _ e; omega)
     have hP := hP.only o45 (fun k (hk : ((k < w0.heap.size ∧ A k) ∨ p + 2 ≤ k) ∧ k ≠ q3 ∧ k < top) => by omega)
     have hz := hz.only o45 (fun k (hk : (((k < w0.heap.size ∧ A k) ∨ w32.heap.size ≤ k) ∧ k < w34.heap.size) ∧ k ≠ q3) => by omega)
     have hR := hR.only o45 (by omega)
     have hBe := hBe.trans (o45.below (by omega))
     have hD9 := hD9.only o45 (by omega)
     refine s_end ⟨not_lst (by kernel_rfl), ?_⟩
     refine dl_one 11 none (.store 27 (.tmp 30) (.tmp 26)) (by kernel_rfl) (by kernel_rfl) fun ty pos af => ?_
     refine s_ownput (m := zs.length) (zs := zs) (z0 := ⟨0, 0, emptyB, (0, 0, nilS), nilS, nilS⟩) (z := z) (o := q3) (cap := cap3) (base := w0.heap.size) F rfl rfl rfl hO h1z fun w46 hO o47 => ?_
     have so47 := o47.size
     have m1 := m1.only o47 (by omega)
     have m2 := m2.only o47 (by omega)
     have m4 := m4.only o47 (by omega)
     have m5 := m5.only o47 (by omega)
     have m6 := m6.only o47 (by omega)
     have hP := hP.only o47 (fun k (hk : ((k < w0.heap.size ∧ A k) ∨ p + 2 ≤ k) ∧ k ≠ q3 ∧ k < top) => by omega)
     have hz := hz.only o47 (fun k (hk : (((k < w0.heap.size ∧ A k) ∨ w32.heap.size ≤ k) ∧ k < w34.heap.size) ∧ k ≠ q3) => by omega)
     have hR := hR.only o47 (by omega)
     have hBe := hBe.trans (o47.below (by omega))
     have hD9 := hD9.only o47 (by omega)
     refine s_end ⟨not_lst (by kernel_rfl), ?_⟩
     refine dl_end (by kernel_rfl) (hK11 _ _ ?_)
     exact ⟨hBe, by rw [← hp]; exact hD9, (i, true), rfl, ⟨cj, _, hcj, m1, hrj⟩, m2, m4, hR, ⟨_, m5, fun _ => ⟨ci, hci, hri⟩⟩, _, zs ++ [z], by rw [fm8_app]; simpa using hO, (fun j h => by have := hO_at2 j h; omega), by rw [show spN (i, true) = i + 1 from rfl, htk]; exact (hP.mono (fun k (hk : ((k < w0.heap.size ∧ A k) ∨ p + 2 ≤ k) ∧ k ≠ q3 ∧ k < top) => ⟨⟨hk.1, fun e => by have := hO_at2 k e; omega⟩, by omega⟩)).snoc (RE.mono (fun k (hk : (((k < w0.heap.size ∧ A k) ∨ w32.heap.size ≤ k) ∧ k < w34.heap.size) ∧ k ≠ q3) => ⟨⟨hk.1.1.elim .inl (fun h => .inr (by omega)), fun e => by have := hO_at2 k e; omega⟩, by omega⟩) hz), m6⟩
   ·
    refine d_op 8 (some 28) (.buildSlice 25 1 #[(0, (.const (.agg #[(.int .i64 0), (.int .i64 0), (.string (ByteArray.mk #[])), (.int .i64 0), (.int .i64 0), (.slice none 0 0), (.slice none 0 0), (.slice none 0 0)])))]) (by kernel_rfl) fun ty pos af => ?_
    refine s_litG [tv ⟨0, 0, emptyB, (0, 0, nilS), nilS, nilS⟩] el25 F (by decide) rfl (by simp [Value.cells, tc]) rfl (by decide) (by decide) fun w48 bl a ebl ml B49 zbl F => ?_
    have sB49 := B49.size
    have hBr := bt hBr B49
    have m1 := m1.old B49
    have m2 := m2.old B49
    have m4 := m4.old B49
    have m5 := m5.old B49
    have m6 := m6.old B49
    have hO := own_below hO B49
    have hP := hP.below B49
    have hS := hS.below B49
    have hR := hR.below B49
    have hBe := hBe.trans (B49.mono (by omega))
    have hD9 := hD9.below B49 (by omega)
    have ml : Blk w48 bl 27 (tc ⟨0, 0, emptyB, (0, 0, nilS), nilS, nilS⟩) := by simpa [Value.cells] using ml
    refine s_end ⟨fun _ => hS, ?_⟩
    refine dl_one 6 (some 26) (.call (.mk (.value (.func 43)) #[(.tmp 21), (.tmp 25)] #[66, 27])) (by kernel_rfl) (by kernel_rfl) fun ty pos af => ?_
    refine s_call (R := fun u w' => ((∃ z, u = tv z ∧ REx w' (AS A w48.heap.size) kd.ess z) ∧ Room w' br) ∧ Ktw br br w48 w') F [_, _] E43 rfl (by decide) (owned57 w48 br (by omega) A (fun k hk => by have := hA k hk; omega) kd y (hry.keep hBr.size (fun k hk hb => hBr.block k (hA k hk))) hR) ?_
    rintro _ w50 a ⟨⟨⟨z, rfl, hz0⟩, hR⟩, k51⟩ F
    have sk51 := k51.size
    have hBe := below_k2 hBe k51 (by omega)
    have hD9 := hD9.k2 k51 (by omega)
    have m1 := m1.k2 k51 (by omega)
    have m2 := m2.k2 k51 (by omega)
    have m4 := m4.k2 k51 (by omega)
    have m5 := m5.k2 k51 (by omega)
    have m6 := m6.k2 k51 (by omega)
    have hO := own_k2 hO k51 (fun c hc => by have := hOt c hc; omega)
    have hP := hP.k2 k51 (fun k (hk : (((k < w0.heap.size ∧ A k) ∨ p + 2 ≤ k) ∧ (Value.slice avv zs.length cvv).ownBlock ≠ some k) ∧ k < top) => by omega)
    have ml := ml.k2 k51 (by omega)
    have hS := hS.trans k51 (by omega)
    have hz := RE.valid hz0
    clear hz0
    have hz : REx w50 (fun k => ((k < w0.heap.size ∧ A k) ∨ w48.heap.size ≤ k) ∧ k < w50.heap.size) kd.ess z := hz.mono (fun k hk => ⟨hk.1.elim (fun h => .inl ⟨hA k h, h⟩) .inr, hk.2⟩)
    have h1z := RE.one hz
    refine s_end ⟨fun _ => hS, ?_⟩
    refine dl_one 9 (some 29) (.call (.mk (.builtin .append) #[(.tmp 20), (.tmp 28)] #[25, 25])) (by kernel_rfl) (by kernel_rfl) fun ty pos af => ?_
    obtain ⟨o2, hat, ho2, hno, hzno, hSx⟩ : ∃ o, (∀ j, (Value.slice avv zs.length cvv).ownBlock = some j → j = o) ∧ (p + 2 ≤ o ∧ o < w50.heap.size) ∧ (∀ k, k < top → (Value.slice avv zs.length cvv).ownBlock ≠ some k → k ≠ o) ∧ (∀ k, (((k < w0.heap.size ∧ A k) ∨ w48.heap.size ≤ k) ∧ k < w50.heap.size) → k ≠ o) ∧ Hid (o = o9 ∨ w32.heap.size ≤ o) := by
     cases hv9 : (Value.slice avv zs.length cvv).ownBlock with
     | none => exact ⟨bl, (fun j h => by cases h), by omega, (fun k hk _ => by omega), (fun k hk => by omega), by unfold Hid; omega⟩
     | some j => exact ⟨j, (fun i h => by cases h; rfl), by have := hOt j hv9; omega, (fun k _ hk e => hk (by rw [e])), (fun k hk => by have := hOt j hv9; omega), .inl (hat9 j hv9)⟩
    have hP9 : QT w50 (fun k => ((k < w0.heap.size ∧ A k) ∨ p + 2 ≤ k) ∧ k ≠ o2 ∧ k < top) zs ((c.spA.take i).map CT.ess) := hP.mono (fun k hk => ⟨hk.1.1, hno k hk.2 hk.1.2, hk.2⟩)
    have hz9 : REx w50 (fun k => (((k < w0.heap.size ∧ A k) ∨ w48.heap.size ≤ k) ∧ k < w50.heap.size) ∧ k ≠ o2) kd.ess z := RE.mono (fun k hk => ⟨hk, hzno k hk⟩) hz
    clear hP hz hno hzno
    have hP := hP9
    have hz := hz9
    clear hP9 hz9
    refine s_appL (o := o2) el25 F (by decide) rfl rfl hO ml rfl (one_tc0 _ _ _ _ rfl) hat (by omega) (by omega) (by decide) (by omega) fun v3 w52 a o3 hOn hOatn how hsrc k53 hkeep F => ?_
    have sk53 := k53.size
    have m1 := m1.k2 k53 (by omega)
    have m2 := m2.k2 k53 (by omega)
    have m4 := m4.k2 k53 (by omega)
    have m5 := m5.k2 k53 (by omega)
    have m6 := m6.k2 k53 (by omega)
    have hP := hP.k2 k53 (fun k (hk : ((k < w0.heap.size ∧ A k) ∨ p + 2 ≤ k) ∧ k ≠ o2 ∧ k < top) => by omega)
    have hz := hz.k2 k53 (fun k (hk : (((k < w0.heap.size ∧ A k) ∨ w48.heap.size ≤ k) ∧ k < w50.heap.size) ∧ k ≠ o2) => by omega)
    have hS := hS.trans k53 (by have h := hSx; unfold Hid at h; omega)
    have hO := hOn
    have hO_at := hOatn
    have hR := hR.k2 k53 (by omega)
    have hBe := below_k2 hBe k53 (by omega)
    have hD9 := hD9.k2 k53 (by omega)
    obtain ⟨q3, cap3, cur3, hv3, _⟩ := own_blk hO (by omega)
    subst hv3
    obtain rfl := hO_at q3 rfl
    clear hO_at
    have hO_at2 : ∀ j, (Value.slice (some ⟨q3, 0, none⟩) (zs.length + 1) cap3).ownBlock = some j → j = q3 := fun j h => by simp [Value.ownBlock] at h; exact h.symm
    have hq3b : p + 2 ≤ q3 := by omega
    have hP9 := hP.mono (fun k hk => (⟨hk.1, by omega, hk.2.2⟩ : ((k < w0.heap.size ∧ A k) ∨ p + 2 ≤ k) ∧ k ≠ q3 ∧ k < top))
    have hz9 : REx w52 (fun k => (((k < w0.heap.size ∧ A k) ∨ w48.heap.size ≤ k) ∧ k < w50.heap.size) ∧ k ≠ q3) kd.ess z := RE.mono (fun k hk => ⟨hk.1, by omega⟩) hz
    have hSq : Hid (q3 = o9 ∨ w32.heap.size ≤ q3) := by have h := hSx; unfold Hid at h ⊢; omega
    clear hP hz how
    have hP := hP9
    have hz := hz9
    clear hP9 hz9
    refine s_end ⟨fun _ => hS, ?_⟩
    refine dl_vala 10 30 (op := (.indexAddr 25 (.tmp 29) (.tmp 27))) F (fun _ => hS) (by kernel_rfl) (fun W => x_ixa rfl rfl (m_ixsK zs.length Try.underlying25 el25.size rfl (by omega))) (by kernel_rfl) (by kernel_rfl) (by decide) fun a F => ?_
    refine dl_two 11 12 (by kernel_rfl) ?_ ?_
    ·
     refine d_op 11 none (.store 27 (.tmp 30) (.tmp 26)) (by kernel_rfl) fun ty pos af => ?_
     refine s_ownput (m := zs.length) (zs := zs) (z0 := ⟨0, 0, emptyB, (0, 0, nilS), nilS, nilS⟩) (z := z) (o := q3) (cap := cap3) (base := w0.heap.size) F rfl rfl rfl hO h1z fun w54 hO o55 => ?_
     have so55 := o55.size
     have m1 := m1.only o55 (by omega)
     have m2 := m2.only o55 (by omega)
     have m4 := m4.only o55 (by omega)
     have m5 := m5.only o55 (by omega)
     have m6 := m6.only o55 (by omega)
     have hP := hP.only o55 (fun k (hk : ((k < w0.heap.size ∧ A k) ∨ p + 2 ≤ k) ∧ k ≠ q3 ∧ k < top) => by omega)
     have hz := hz.only o55 (fun k (hk : (((k < w0.heap.size ∧ A k) ∨ w48.heap.size ≤ k) ∧ k < w50.heap.size) ∧ k ≠ q3) => by omega)
     have hS := hS.only o55 (by have h := hSq; unfold Hid at h; omega)
     have hR := hR.only o55 (by omega)
     have hBe := hBe.trans (o55.below (by omega))
     have hD9 := hD9.only o55 (by omega)
     refine s_end ⟨fun _ => hS, ?_⟩
     refine dl_one 12 none (.store 25 (.tmp 6) (.tmp 29)) (by kernel_rfl) (by kernel_rfl) fun ty pos af => ?_
     refine s_put F rfl rfl flat25 m6 (by first | (simp; done) | decide) rfl fun w56 m6 o57 => ?_
     have so57 := o57.size
     have m1 := m1.only o57 (by omega)
     have m2 := m2.only o57 (by omega)
     have m4 := m4.only o57 (by omega)
     have m5 := m5.only o57 (by omega)
     have hO := own_only hO o57 (fun e => by have := hO_at2 _ e; omega)
     have hP := hP.only o57 (fun k (hk : ((k < w0.heap.size ∧ A k) ∨ p + 2 ≤ k) ∧ k ≠ q3 ∧ k < top) => by omega)
     have hz := hz.only o57 (fun k (hk : (((k < w0.heap.size ∧ A k) ∨ w48.heap.size ≤ k) ∧ k < w50.heap.size) ∧ k ≠ q3) => by omega)
     have hR := hR.only o57 (by omega)
     have hBe := hBe.trans (o57.below (by omega))
     have hD9 := hD9.only o57 (by omega)
     refine s_end ⟨not_lst (by kernel_rfl), ?_⟩
     refine dl_end (by kernel_rfl) (hK11 _ _ ?_)
     exact ⟨hBe, by rw [← hp]; exact hD9, (i, true), rfl, ⟨cj, _, hcj, m1, hrj⟩, m2, m4, hR, ⟨_, m5, fun _ => ⟨ci, hci, hri⟩⟩, _, zs ++ [z], by rw [fm8_app]; simpa using hO, (fun j h => by have := hO_at2 j h; omega), by rw [show spN (i, true) = i + 1 from rfl, htk]; exact (hP.mono (fun k (hk : ((k < w0.heap.size ∧ A k) ∨ p + 2 ≤ k) ∧ k ≠ q3 ∧ k < top) => ⟨⟨hk.1, fun e => by have := hO_at2 k e; omega⟩, by omega⟩)).snoc (RE.mono (fun k (hk : (((k < w0.heap.size ∧ A k) ∨ w48.heap.size ≤ k) ∧ k < w50.heap.size) ∧ k ≠ q3) => ⟨⟨hk.1.1.elim .inl (fun h => .inr (by omega)), fun e => by have := hO_at2 k e; omega⟩, by omega⟩) hz), m6⟩
    ·
     refine d_op 12 none (.store 25 (.tmp 6) (.tmp 29)) (by kernel_rfl) fun ty pos af => ?_
     refine s_put F rfl rfl flat25 m6 (by first | (simp; done) | decide) rfl fun w58 m6 o59 => ?_
     have so59 := o59.size
     have m1 := m1.only o59 (by omega)
     have m2 := m2.only o59 (by omega)
     have m4 := m4.only o59 (by omega)
     have m5 := m5.only o59 (by omega)
     have hO := own_only hO o59 (fun e => by have := hO_at2 _ e; omega)
     have hP := hP.only o59 (fun k (hk : ((k < w0.heap.size ∧ A k) ∨ p + 2 ≤ k) ∧ k ≠ q3 ∧ k < top) => by omega)
     have hz := hz.only o59 (fun k (hk : (((k < w0.heap.size ∧ A k) ∨ w48.heap.size ≤ k) ∧ k < w50.heap.size) ∧ k ≠ q3) => by omega)
     have hR := hR.only o59 (by omega)
     have hBe := hBe.trans (o59.below (by omega))
     have hD9 := hD9.only o59 (by omega)
     refine s_end ⟨not_lst (by kernel_rfl), ?_⟩
     refine dl_one 11 none (.store 27 (.tmp 30) (.tmp 26)) (by kernel_rfl) (by kernel_rfl) fun ty pos af => ?_
     refine s_ownput (m := zs.length) (zs := zs) (z0 := ⟨0, 0, emptyB, (0, 0, nilS), nilS, nilS⟩) (z := z) (o := q3) (cap := cap3) (base := w0.heap.size) F rfl rfl rfl hO h1z fun w60 hO o61 => ?_
     have so61 := o61.size
     have m1 := m1.only o61 (by omega)
     have m2 := m2.only o61 (by omega)
     have m4 := m4.only o61 (by omega)
     have m5 := m5.only o61 (by omega)
     have m6 := m6.only o61 (by omega)
     have hP := hP.only o61 (fun k (hk : ((k < w0.heap.size ∧ A k) ∨ p + 2 ≤ k) ∧ k ≠ q3 ∧ k < top) => by omega)
     have hz := hz.only o61 (fun k (hk : (((k < w0.heap.size ∧ A k) ∨ w48.heap.size ≤ k) ∧ k < w50.heap.size) ∧ k ≠ q3) => by omega)
     have hR := hR.only o61 (by omega)
     have hBe := hBe.trans (o61.below (by omega))
     have hD9 := hD9.only o61 (by omega)
     refine s_end ⟨not_lst (by kernel_rfl), ?_⟩
     refine dl_end (by kernel_rfl) (hK11 _ _ ?_)
     exact ⟨hBe, by rw [← hp]; exact hD9, (i, true), rfl, ⟨cj, _, hcj, m1, hrj⟩, m2, m4, hR, ⟨_, m5, fun _ => ⟨ci, hci, hri⟩⟩, _, zs ++ [z], by rw [fm8_app]; simpa using hO, (fun j h => by have := hO_at2 j h; omega), by rw [show spN (i, true) = i + 1 from rfl, htk]; exact (hP.mono (fun k (hk : ((k < w0.heap.size ∧ A k) ∨ p + 2 ≤ k) ∧ k ≠ q3 ∧ k < top) => ⟨⟨hk.1, fun e => by have := hO_at2 k e; omega⟩, by omega⟩)).snoc (RE.mono (fun k (hk : (((k < w0.heap.size ∧ A k) ∨ w48.heap.size ≤ k) ∧ k < w50.heap.size) ∧ k ≠ q3) => ⟨⟨hk.1.1.elim .inl (fun h => .inr (by omega)), fun e => by have := hO_at2 k e; omega⟩, by omega⟩) hz), m6⟩
  ·
   refine wpIn_skip ?_
   have hna := (CT.spL_next c ci i hci).2 hap
   exact ⟨hBe, by rw [← hp]; exact hD9, (i, true), rfl, ⟨cj, _, hcj, m1, hrj⟩, m2, m4, hR, ⟨_, m5, fun _ => ⟨ci, hci, hri⟩⟩, _, zs, hO, hOb, by rw [show spN (i, true) = i + 1 from rfl, List.take_of_length_le (by omega)]; rw [List.take_of_length_le (by omega)] at hP; exact hP.mono (fun k (hk : (((k < w0.heap.size ∧ A k) ∨ p + 2 ≤ k) ∧ (Value.slice avv zs.length cvv).ownBlock ≠ some k) ∧ k < top) => ⟨hk.1, by omega⟩), m6⟩
 ·
  rintro a s W hDn hI hBw hWs hD F
  rw [← hp] at hWs
  obtain ⟨bD, hbD⟩ : ∃ bD, bD = w18.heap.size := ⟨_, rfl⟩
  rw [← hbD] at hD F
  have hD : Dfr W bD := hD
  have hB := hB.trans hBw
  have sB := hB.size
  obtain ⟨i, fl⟩ := s
  obtain ⟨hfl, hdn⟩ := hDn
  simp only at hfl hdn
  subst hfl
  obtain ⟨_, m2, m4, hR, ⟨yh, m5, hyh⟩, vv, zs, hO, hOb, hP, m6⟩ := hI
  rw [show spN (i, true) = i + 1 from rfl, List.take_of_length_le (by omega)] at hP
  obtain ⟨ch, hch, hrh⟩ := hyh rfl
  simp only at hch
  obtain rfl : ch = c.spH := by have h := CT.spH_last c; rw [show c.spL.length - 1 = i by omega, hch] at h; exact Option.some.inj h
  have hPl := hP.1
  rw [List.length_map] at hPl
  obtain ⟨o3, hat3, ho3⟩ : ∃ o, (∀ j, vv.ownBlock = some j → j = o) ∧ p + 2 ≤ o := by
   cases hv9 : vv.ownBlock with
   | none => exact ⟨p + 2, (fun j h => by cases h), by omega⟩
   | some j => exact ⟨j, (fun i h => by cases h; rfl), hOb j hv9⟩
  obtain ⟨avv, cvv, hvv, _⟩ := (Rd.own hO).form
  subst hvv
  have h1z : ∀ z ∈ zs, ∀ u ∈ tc z, u.oneCell' = true := fun z hz => by obtain ⟨i, hi, he⟩ := List.getElem_of_mem hz; exact RE.one (hP.2 i z _ (by rw [← he]; exact List.getElem?_eq_getElem hi) (List.getElem?_eq_getElem (by rw [List.length_map]; omega)))
  obtain ⟨top, htop⟩ : ∃ h, h = W.heap.size := ⟨_, rfl⟩
  rw [← htop] at hP
  have hOl : ∀ j, (Value.slice avv zs.length cvv).ownBlock = some j → j < top := fun j h => by rw [htop]; exact (hO.lt j h).2
  refine K7 _ _ ?_
  refine wp_rs fun _ K12 => F.ld m6 flat25 rfl rfl fun a F => ?_
  have hne0 : (Value.slice avv zs.length cvv).ownBlock = none → zs = [] := fun h => by rcases Nat.eq_zero_or_pos zs.length with h0 | h0; (· exact List.eq_nil_of_length_eq_zero h0); obtain ⟨o, cap, cur, hv, _⟩ := own_blk hO h0; rw [hv] at h; cases h
  have hPx : QT W (fun k => (((k < w0.heap.size ∧ A k) ∨ p + 2 ≤ k) ∧ k ≠ o3) ∧ k < top) zs (c.spA.map CT.ess) := ⟨hP.1, fun j z q e1 e2 => (hP.2 j z q e1 e2).mono (fun k hk => ⟨⟨hk.1.1, fun e => by subst e; cases hv9 : (Value.slice avv zs.length cvv).ownBlock with | none => (have hz0 := hne0 hv9; rw [hz0] at e1; simp at e1) | some j9 => (have := hat3 j9 hv9; subst this; exact hk.1.2 hv9)⟩, hk.2⟩)⟩
  have hP := hPx
  clear hPx
  refine s_call (R := fun u w' => (w'.ownsRow w0.heap.size 27 8 (.slice avv zs.length cvv) zs.length (zs.reverse.flatMap tc)) ∧ Ktw o3 o3 W w') F [_] E55 rfl (by decide) (Reverse69 W w0.heap.size o3 avv cvv zs hO hat3 h1z (by omega)) ?_
  rintro u32 w62 a ⟨hO, k63⟩ F
  have sk63 := k63.size
  have hB := k63.under hB (by omega)
  have m2 := m2.k2 k63 (by omega)
  have m4 := m4.k2 k63 (by omega)
  have m5 := m5.k2 k63 (by omega)
  have m6 := m6.k2 k63 (by omega)
  have hD := hD.k2 k63 (by omega)
  have hP := hP.k2 k63 (fun k (hk : (((k < w0.heap.size ∧ A k) ∨ p + 2 ≤ k) ∧ k ≠ o3) ∧ k < top) => by omega)
  have hR := hR.k2 k63 (by omega)
  refine s_end (K12 _ _ ?_)
  refine dk2_seq (br) (b2) (ops := regOps Try.f21 12) (N := 6) (by kernel_rfl) wide_orders (by kernel_rfl) fun w64 hw64 B65 hS K13 hK13 => ?_
  have zw64 : w64.heap.size = w62.heap.size := by rw [hw64]
  have sB65 := B65.size
  have hB := bt hB B65
  have m2 := m2.old B65
  have m4 := m4.old B65
  have m5 := m5.old B65
  have m6 := m6.old B65
  have hD := hD.old B65
  have hP := hP.below B65
  have hO := own_below hO B65
  have hR := hR.below B65
  have m2_d := m2
  have m4_d := m4
  have m5_d := m5
  have m6_d := m6
  have hR_d := hR
  have hD_d := hD
  have hP_d := hP
  have hO_d := hO
  have hB_d := hB
  refine F.dv 0 33 (.load 66 (.tmp 4)) hS (fun W hW => x_load rfl (m_load flat64 ((m4_d.k2 hW (by omega)).cell (j := 0) rfl))) fun a F => F.dv 1 34 (.load 27 (.tmp 5)) hS (fun W hW => x_ldW wide27 (m5_d.k2 hW (by omega)) rfl rfl) fun a F => F.dv 3 36 (.load 25 (.tmp 6)) hS (fun W hW => x_load rfl (m_load flat25 ((m6_d.k2 hW (by omega)).cell (j := 0) rfl))) fun a F => ?_
  refine d1 2 (some 35) (.call (.mk (.value (.func 43)) #[(.tmp 33), (.tmp 34)] #[66, 27])) fun ty pos af => ?_
  have hOt : ∀ j, (Value.slice avv zs.length cvv).ownBlock = some j → p + 2 ≤ j ∧ j < top := fun j h => ⟨hOb j h, hOl j h⟩
  refine s_call (R := fun u w' => ((∃ z, u = tv z ∧ REx w' (AS A w64.heap.size) c.spH.ess z) ∧ Room w' br) ∧ Ktw br br w64 w') F [_, _] E43 rfl (by decide) (owned57 w64 br (by omega) A (fun k hk => by have := hA k hk; omega) c.spH yh (hrh.keep hB.size (fun k hk hb => hB.block k (hA k hk))) hR) ?_
  rintro _ w66 a ⟨⟨⟨z, rfl, hz0⟩, hR⟩, k67⟩ F
  have sk67 := k67.size
  have hB := k67.under hB (by omega)
  have m2 := m2.k2 k67 (by omega)
  have hD := hD.k2 k67 (by omega)
  have hP := hP.k2 k67 (fun k (hk : (((k < w0.heap.size ∧ A k) ∨ p + 2 ≤ k) ∧ k ≠ o3) ∧ k < top) => by omega)
  have hO := own_k2 hO k67 (fun c hc => by have := hOt c hc; omega)
  have hS := hS.trans k67 (by omega)
  have hz := RE.valid hz0
  clear hz0
  have hz : REx w66 (fun k => ((k < w0.heap.size ∧ A k) ∨ w64.heap.size ≤ k) ∧ k < w66.heap.size) c.spH.ess z := hz.mono (fun k hk => ⟨hk.1.elim (fun h => .inl ⟨hA k h, h⟩) .inr, hk.2⟩)
  have h1z9 := RE.one hz
  refine s_end ⟨hS, ?_⟩
  refine d1 4 none (.store 27 (.tmp 2) (.tmp 35)) fun ty pos af => ?_
  refine s_putW F rfl rfl (size_wide wide27) m2 rfl h1z9 fun w70 m2 o71 => ?_
  have so71 := o71.size
  have hB := hB.trans (o71.below (by omega))
  have hD := hD.only o71 (by omega)
  have hP := hP.only o71 (fun k (hk : (((k < w0.heap.size ∧ A k) ∨ p + 2 ≤ k) ∧ k ≠ o3) ∧ k < top) => by omega)
  have hO := own_only hO o71 (fun e => by have := hOt _ e; omega)
  have hz := hz.only o71 (fun k (hk : ((k < w0.heap.size ∧ A k) ∨ w64.heap.size ≤ k) ∧ k < w66.heap.size) => by omega)
  have hS := hS.only o71 (by omega)
  refine s_end ⟨hS, ?_⟩
  refine F.dv 5 3 (.assign (.tmp 36)) hS (fun W hW => x_assign rfl) fun a F => ?_
  refine d_end (by kernel_rfl) (hK13 _ _ ?_)
  have hrv : QT w70 (fun k => (((k < w0.heap.size ∧ A k) ∨ p + 2 ≤ k) ∧ k ≠ o3) ∧ k < top) zs.reverse (c.spA.reverse.map CT.ess) := by rw [List.map_reverse]; exact hP.rev
  refine wp_ret (resM F hD fun w9 o9 => ⟨run_cellt F rfl rfl rfl (m_loadW (cs := [_, _, _, _, _, _, _, _]) wide27 (m2.only o9 (by omega))), ⟨_, rfl, ⟨z, _, rfl, (RE.mono (B := AS A w0.heap.size) (fun k (hk : ((k < w0.heap.size ∧ A k) ∨ w64.heap.size ≤ k) ∧ k < w66.heap.size) => hk.1.elim (fun h => .inl h.2) (fun h => .inr (by omega))) (RE.only hz o9 (fun hk => by omega))), ((hrv.only o9 (fun k hk => by omega)).mono (B := AS A w0.heap.size) (fun k hk => hk.1.1.elim (fun h => .inl h.2) (fun h => .inr (by omega)))).rke (by have h := Rd.own (own_only hO o9 (fun e => by have := hOt _ e; omega)); simpa using h) (fun j h => .inr (by have := hOt j h; omega))⟩, hB.trans (o9.below (by omega))⟩⟩)
 ·
  rintro a c' W hI
  exact hI.elim
end Go.Proofs.Ytbhhbfdoadecgaa
