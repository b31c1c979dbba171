/- Same. -/
import Derived.Test.YtmkjhdiepkpdoaaTerm28
import Derived.Test.YtmkjhdiepkpdoaaLev6
namespace Go.Proofs.Ytmkjhdiepkpdoaa
set_option maxRecDepth 100000
set_option maxHeartbeats 1600000
open Go.RowKit Go.Shelf
set_option linter.unusedVariables false
set_option linter.unusedSimpArgs false
def eqO : Option SL → Option SL → Prop
 | some s, some t => eqF s t
 | _, _ => False
def eqOs (os ps : List (Option SL)) : Prop := os.length = ps.length ∧ ∀ (i : Nat) o p, os[i]? = some o → ps[i]? = some p → eqO o p
def sameP : PT → PT → Prop
 | .var n, .var m => n = m
 | .sort o, .sort p => eqO o p
 | .cst s os, .cst t ps => s = t ∧ eqOs os ps
 | .odd k, .odd j => k = j
 | .two k a b, .two j c d => k = j ∧ sameP a c ∧ sameP b d
 | .lt a b c, .lt d e f => sameP a d ∧ sameP b e ∧ sameP c f
 | _, _ => False
def PT.fit : PT → Prop
 | .cst _ os => os.length ≤ 9223372036854775807
 | .two _ a b => a.fit ∧ b.fit
 | .lt a b c => a.fit ∧ b.fit ∧ c.fit
 | _ => True
theorem CT.fit_ess : ∀ {c : CT}, c.fit → c.ess.fit
 | .two _ a b _, h => ⟨CT.fit_ess h.1, CT.fit_ess h.2⟩
 | .lt a b c _, h => ⟨CT.fit_ess h.1, CT.fit_ess h.2.1, CT.fit_ess h.2.2⟩
 | .cst s ls _, h => by simp only [CT.ess, PT.fit, List.length_map]; exact h.2
 | .var .., _ => trivial
 | .sort .., _ => trivial
 | .odd .., _ => trivial
theorem PT.fit_kid {c k : CT} {i : Nat} (h : c.ess.fit) (hk : c.kids[i]? = some k) : k.ess.fit := by
 cases c with
 | two _ a b _ =>
  rcases i with _ | _ | i
  ·
   simp [CT.kids] at hk; subst hk; exact h.1
  ·
   simp [CT.kids] at hk; subst hk; exact h.2
  ·
   simp [CT.kids] at hk
 | lt a b c _ =>
  rcases i with _ | _ | _ | i
  ·
   simp [CT.kids] at hk; subst hk; exact h.1
  ·
   simp [CT.kids] at hk; subst hk; exact h.2.1
  ·
   simp [CT.kids] at hk; subst hk; exact h.2.2
  ·
   simp [CT.kids] at hk
 | _ => simp [CT.kids] at hk
theorem TB.iff {w0 : World} {x y : C3} {la lb : Lv} {b : Bool} (h : TB w0 x y la lb eqF b) (hx : RL w0 x la) (hy : RL w0 y lb) : b = true ↔ eqO (slO la) (slO lb) := by
 by_cases ha : sndL la
 ·
  by_cases hb : sndL lb
  ·
   obtain ⟨s, h1, h2⟩ := sound_sl hx ha
   obtain ⟨t, h3, h4⟩ := sound_sl hy hb
   rw [h.2 s t h1 h3 h2 h4, slO_of hx h1 h2, slO_of hy h3 h4, decide_eq_true_iff]
   rfl
  ·
   rw [h.1 (fun h' => hb h'.2), (slO_none hy).2 hb]
   cases slO la <;> simp [eqO]
 ·
  rw [h.1 (fun h' => ha h'.1), (slO_none hx).2 ha]
  simp [eqO]
theorem same_rest {W : World} {A : Nat → Prop} : ∀ {c d : CT} {x y : C8}, RC W A c x → RC W A d y → x.k = y.k → (x.k ≠ 1 ∧ x.k ≠ 2 ∧ x.k ≠ 7) → (sameP c.ess d.ess ↔ c.kids.length = d.kids.length ∧ ∀ (i : Nat) a b, c.kids[i]? = some a → d.kids[i]? = some b → sameP a.ess b.ess)
 | .var .., _, x, y, h, h2, hk, h3 => by have := h.1; omega
 | .sort .., _, x, y, h, h2, hk, h3 => by have := h.1; omega
 | .cst .., _, x, y, h, h2, hk, h3 => by have := h.1; omega
 | _, .var .., x, y, h, h2, hk, h3 => by have := h2.1; omega
 | _, .sort .., x, y, h, h2, hk, h3 => by have := h2.1; omega
 | _, .cst .., x, y, h, h2, hk, h3 => by have := h2.1; omega
 | .odd k m, .odd j n, x, y, h, h2, hk, h3 => by
  have := h.1
  have := h2.1
  simp [CT.ess, sameP, CT.kids]
  omega
 | .odd k m, .two .., x, y, h, h2, hk, h3 => by simp [CT.ess, sameP, CT.kids]
 | .odd k m, .lt .., x, y, h, h2, hk, h3 => by simp [CT.ess, sameP, CT.kids]
 | .two .., .odd .., x, y, h, h2, hk, h3 => by simp [CT.ess, sameP, CT.kids]
 | .lt .., .odd .., x, y, h, h2, hk, h3 => by simp [CT.ess, sameP, CT.kids]
 | .two .., .lt .., x, y, h, h2, hk, h3 => by simp [CT.ess, sameP, CT.kids]
 | .lt .., .two .., x, y, h, h2, hk, h3 => by simp [CT.ess, sameP, CT.kids]
 | .two k a b m, .two j c d n, x, y, h, h2, hk, h3 => by
  have e1 := h.1
  have e2 := h2.1
  simp only [CT.ess, sameP, CT.kids]
  constructor
  ·
   rintro ⟨_, g1, g2⟩
   refine ⟨rfl, fun i p q e3 e4 => ?_⟩
   rcases i with _ | _ | i
   ·
    simp at e3 e4; subst e3 e4; exact g1
   ·
    simp at e3 e4; subst e3 e4; exact g2
   ·
    simp at e3
  ·
   rintro ⟨_, g⟩
   exact ⟨by omega, g 0 a c rfl rfl, g 1 b d rfl rfl⟩
 | .lt a b c m, .lt d e f n, x, y, h, h2, hk, h3 => by
  simp only [CT.ess, sameP, CT.kids]
  constructor
  ·
   rintro ⟨g1, g2, g3⟩
   refine ⟨rfl, fun i p q e3 e4 => ?_⟩
   rcases i with _ | _ | _ | i
   ·
    simp at e3 e4; subst e3 e4; exact g1
   ·
    simp at e3 e4; subst e3 e4; exact g2
   ·
    simp at e3 e4; subst e3 e4; exact g3
   ·
    simp at e3
  ·
   rintro ⟨_, g⟩
   exact ⟨g 0 a d rfl rfl, g 1 b e rfl rfl, g 2 c f rfl rfl⟩
theorem eqL116 (cs ds : List Lv) (v u : Value) (w0 : World) (hV : RVn w0 (fun k => k < w0.heap.size) v cs) (hU : RVn w0 (fun k => k < w0.heap.size) u ds) (hlen : cs.length ≤ 9223372036854775807) : Calls Try.prog 149 #[v, u, .func (.func 148) #[] #[]] w0 fun e w' => ∃ z, e = .returned z ∧ (∃ b, z = .bool b ∧ (b = true ↔ cs.length = ds.length ∧ ∀ (i : Nat) p q, cs[i]? = some p → ds[i]? = some q → eqO (slO p) (slO q))) ∧ Below w0.heap.size w0 w' := by
 obtain ⟨av, cv, hve, _⟩ := hV.form
 subst hve
 obtain ⟨au, cu, hue, _⟩ := hU.form
 subst hue
 have hB := Below.refl w0.heap.size w0
 have sB := hB.size
 refine calls_fs 32 [(0, .slice av cs.length cv), (1, .slice au ds.length cu), (2, .func (.func 148) #[] #[])] Try.func149 rfl rfl rfl rfl rfl fun a F => ?_
 refine wp_rs fun _ K1 => F.sg rfl fun a F => ?_
 refine s_end (K1 _ _ ?_)
 refine wp_seq_k fun _ K2 => ?_
 rcases (show cs.length ≠ ds.length ∨ cs.length = ds.length by omega) with hk1 | hk1
 ·
  skip
  refine wp_rs fun _ K4 => F.mv rfl fun a F => F.vl (x_len Try.underlying22 rfl) fun a F => F.mv rfl fun a F => F.vl (x_len Try.underlying22 rfl) fun a F => F.vl (neqT (by omega) rfl rfl) fun a F => ?_
  refine s_end (K4 _ _ ?_)
  refine wp_if F rfl ?_
  refine wp_rs fun _ K5 => F.sg rfl fun a F => ?_
  refine s_end (K5 _ _ ?_)
  refine wp_ret (then_ret (res_slot F rfl rfl ⟨_, rfl, ⟨false, rfl, fun h => absurd h (by decide), fun h => absurd h.1 hk1⟩, hB⟩))
 ·
  skip
  refine wp_rs fun _ K6 => F.mv rfl fun a F => F.vl (x_len Try.underlying22 rfl) fun a F => F.mv rfl fun a F => F.vl (x_len Try.underlying22 rfl) fun a F => F.vl (neqF (by omega) rfl rfl) fun a F => ?_
  refine s_end (K6 _ _ ?_)
  refine wp_if F rfl ?_
  refine wp_skip (K2 _ _ ?_)
  refine wp_seq_k fun _ K7 => ?_
  refine wp_rs fun _ K8 => F.mv rfl fun a F => F.vl (x_len Try.underlying22 rfl) fun a F => F.mv rfl fun a F => ?_
  refine s_end (K8 _ _ ?_)
  refine wp_block ?_
  refine wp_up cs.length (fun i a w => (∀ (j : Nat) p q, j < i → cs[j]? = some p → ds[j]? = some q → eqO (slO p) (slO q)) ∧ Below w0.heap.size w0 w ∧ Fs 32 a [(1, .slice au ds.length cu), (2, .func (.func 148) #[] #[]), (15, .slice av cs.length cv), (16, .int .i64 (cs.length : Int)), (17, .int .i64 (i : Int))]) ⟨(fun j p q h => absurd h (by omega)), hB, F.sub _ rfl⟩ ?_
  clear F hB
  rintro i a w hi ⟨hok, hB, F⟩ K' hK'
  have sB := hB.size
  refine wp_rs fun _ K9 => F.vl (x_lss (b := decide (i < cs.length)) (decide_eq_decide.2 (by omega)) rfl rfl) fun a F => ?_
  refine s_end (K9 _ _ ?_)
  refine wp_seq_k fun _ K10 => ?_
  refine wp_iff F rfl (fun hc18 => ?_) (fun hc18 => ?_)
  ·
   obtain ⟨b9, off9, c9, x, p, hve, hp, hrx, hAb, hbl, hrow⟩ := hV.row (i := i) (by omega)
   obtain ⟨b8, off8, c8, y, q, hue, hq, hry, hAb8, hbl8, hrow8⟩ := hU.row (i := i) (by omega)
   cases hve
   cases hue
   refine wp_skip (K10 _ _ ?_)
   refine wp_seq_k fun _ K11 => ?_
   refine wp_block ?_
   refine wp_rs fun _ K12 => F.mv rfl fun a F => F.vl (x_ixa rfl rfl (m_ixsK i Try.underlying22 el22.size rfl (by omega))) fun a F => F.vl (x_ldA wide24 (hrow _ (hB.block _ hbl)) rfl rfl) fun a F => ?_
   refine s_alloc F (by decide) zero24 fun w2 b8 a eb8 m8 B3 zb8 F => ?_
   have sB3 := B3.size
   have hB := bt hB B3
   refine F.sg rfl fun a F => ?_
   refine s_putW F rfl rfl (size_wide wide24) m8 rfl (one_lc (RLn.rl hrx).one1) fun w6 m8 o7 => ?_
   have so7 := o7.size
   have hB := hB.trans (o7.below (by omega))
   refine s_end (K12 _ _ ?_)
   refine wp_rs fun _ K13 => F.mv rfl fun a F => F.mv rfl fun a F => F.vl (x_ixa rfl rfl (m_ixsK i Try.underlying22 el22.size rfl (by omega))) fun a F => F.vl (x_ldA wide24 (hrow8 _ (hB.block _ hbl8)) rfl rfl) fun a F => ?_
   refine s_alloc F (by decide) zero24 fun w8 b9 a eb9 m9 B9 zb9 F => ?_
   have sB9 := B9.size
   have hB := bt hB B9
   have m8 := m8.old B9
   refine s_putW F rfl rfl (size_wide wide24) m9 rfl (one_lc (RLn.rl hry).one1) fun w12 m9 o13 => ?_
   have so13 := o13.size
   have hB := hB.trans (o13.below (by omega))
   have m8 := m8.only o13 (by omega)
   refine s_end (K13 _ _ ?_)
   refine wp_rs fun _ K14 => F.mv rfl fun a F => F.vl (x_ldW wide24 m8 rfl rfl) fun a F => F.vl (x_ldW wide24 m9 rfl rfl) fun a F => ?_
   refine s_callC (R := fun v w' => (∃ b, v = .bool b ∧ (b = true ↔ eqO (slO p) (slO q))) ∧ Below w12.heap.size w12 w') (lb := []) F [_, _] rfl E148 rfl (by decide) ((Equal23 x y p q w12 (hrx.keep hB.size (fun k hk _ => hB.block k hk)).rl (hry.keep hB.size (fun k hk _ => hB.block k hk)).rl).mono fun e w' ⟨v, h1, ⟨b, h2, h3⟩, h4⟩ => ⟨v, h1, ⟨b, h2, h3.iff (hrx.keep hB.size (fun k hk _ => hB.block k hk)).rl (hry.keep hB.size (fun k hk _ => hB.block k hk)).rl⟩, h4⟩) ?_
   rintro _ w14 a ⟨⟨b29, rfl, h29⟩, B15⟩ F
   have sB15 := B15.size
   have hB := bt hB B15
   refine F.vl (x_not rfl) fun a F => ?_
   refine s_end (K14 _ _ ?_)
   refine wp_ifb F rfl (fun hc30 => ?_) (fun hc30 => ?_)
   ·
    have hn29 : ¬ (eqO (slO p) (slO q)) := fun h => by have := h29.2 h; subst this; simp at hc30
    refine wp_rs fun _ K15 => F.sg rfl fun a F => ?_
    refine s_end (K15 _ _ ?_)
    refine wp_ret (inb_ret (then_ret (then_ret (inb_ret (then_ret (res_slot F rfl rfl ⟨_, rfl, ⟨false, rfl, fun h => absurd h (by decide), fun h => (hn29 (h.2 i p q hp hq)).elim⟩, hB⟩))))))
   ·
    obtain rfl : b29 = true := by simpa using hc30
    have h30 := h29.1 rfl
    refine wp_skip (K11 _ _ ?_)
    refine wp_region_lit ?_
    refine F.vl (x_addn (i + 1) (by omega) (by omega) rfl rfl) fun a F => F.mv rfl fun a F => ?_
    refine s_end (hK' _ _ (by omega) ⟨(fun j p' q' hj e1 e2 => by rcases Nat.lt_or_ge j i with h | h; (· exact hok j p' q' h e1 e2); (· obtain rfl : j = i := (by omega); rw [hp] at e1; rw [hq] at e2; cases e1; cases e2; exact h30)), hB, F.sub _ rfl⟩)
  ·
   obtain rfl : i = cs.length := by omega
   refine wp_exit (K7 _ _ ?_)
   refine wp_rs fun _ K16 => F.sg rfl fun a F => ?_
   refine s_end (K16 _ _ ?_)
   refine wp_ret (res_slot F rfl rfl ⟨_, rfl, ⟨true, rfl, fun _ => ⟨hk1, fun j p q e1 e2 => hok j p q (List.getElem?_eq_some_iff.1 e1).1 e1 e2⟩, fun _ => rfl⟩, hB⟩)
theorem eqT117 (cs ds : List CT) (v u : Value) (w0 : World) (hV : RK w0 (fun k => k < w0.heap.size) v cs) (hU : RK w0 (fun k => k < w0.heap.size) u ds) (hlen : cs.length ≤ 9223372036854775807) (HS : ∀ (p q : CT) (x y : C8) (w : World) (i : Nat), cs[i]? = some p → ds[i]? = some q → RC w (fun k => k < w.heap.size) p x → RC w (fun k => k < w.heap.size) q y → Calls Try.prog 119 #[tv x, tv y] w fun e w' => ∃ z, e = .returned z ∧ (∃ b, z = .bool b ∧ (b = true ↔ sameP p.ess q.ess)) ∧ Below w.heap.size w w') : Calls Try.prog 150 #[v, u, .func (.func 119) #[] #[]] w0 fun e w' => ∃ z, e = .returned z ∧ (∃ b, z = .bool b ∧ (b = true ↔ cs.length = ds.length ∧ ∀ (i : Nat) p q, cs[i]? = some p → ds[i]? = some q → sameP p.ess q.ess)) ∧ Below w0.heap.size w0 w' := by
 obtain ⟨av, cv, hve, _⟩ := hV.form
 subst hve
 obtain ⟨au, cu, hue, _⟩ := hU.form
 subst hue
 have hB := Below.refl w0.heap.size w0
 have sB := hB.size
 refine calls_fs 32 [(0, .slice av cs.length cv), (1, .slice au ds.length cu), (2, .func (.func 119) #[] #[])] Try.func150 rfl rfl rfl rfl rfl fun a F => ?_
 refine wp_rs fun _ K1 => F.sg rfl fun a F => ?_
 refine s_end (K1 _ _ ?_)
 refine wp_seq_k fun _ K2 => ?_
 rcases (show cs.length ≠ ds.length ∨ cs.length = ds.length by omega) with hk1 | hk1
 ·
  skip
  refine wp_rs fun _ K4 => F.mv rfl fun a F => F.vl (x_len Try.underlying25 rfl) fun a F => F.mv rfl fun a F => F.vl (x_len Try.underlying25 rfl) fun a F => F.vl (neqT (by omega) rfl rfl) fun a F => ?_
  refine s_end (K4 _ _ ?_)
  refine wp_if F rfl ?_
  refine wp_rs fun _ K5 => F.sg rfl fun a F => ?_
  refine s_end (K5 _ _ ?_)
  refine wp_ret (then_ret (res_slot F rfl rfl ⟨_, rfl, ⟨false, rfl, fun h => absurd h (by decide), fun h => absurd h.1 hk1⟩, hB⟩))
 ·
  skip
  refine wp_rs fun _ K6 => F.mv rfl fun a F => F.vl (x_len Try.underlying25 rfl) fun a F => F.mv rfl fun a F => F.vl (x_len Try.underlying25 rfl) fun a F => F.vl (neqF (by omega) rfl rfl) fun a F => ?_
  refine s_end (K6 _ _ ?_)
  refine wp_if F rfl ?_
  refine wp_skip (K2 _ _ ?_)
  refine wp_seq_k fun _ K7 => ?_
  refine wp_rs fun _ K8 => F.mv rfl fun a F => F.vl (x_len Try.underlying25 rfl) fun a F => F.mv rfl fun a F => ?_
  refine s_end (K8 _ _ ?_)
  refine wp_block ?_
  refine wp_up cs.length (fun i a w => (∀ (j : Nat) p q, j < i → cs[j]? = some p → ds[j]? = some q → sameP p.ess q.ess) ∧ Below w0.heap.size w0 w ∧ Fs 32 a [(1, .slice au ds.length cu), (2, .func (.func 119) #[] #[]), (15, .slice av cs.length cv), (16, .int .i64 (cs.length : Int)), (17, .int .i64 (i : Int))]) ⟨(fun j p q h => absurd h (by omega)), hB, F.sub _ rfl⟩ ?_
  clear F hB
  rintro i a w hi ⟨hok, hB, F⟩ K' hK'
  have sB := hB.size
  refine wp_rs fun _ K9 => F.vl (x_lss (b := decide (i < cs.length)) (decide_eq_decide.2 (by omega)) rfl rfl) fun a F => ?_
  refine s_end (K9 _ _ ?_)
  refine wp_seq_k fun _ K10 => ?_
  refine wp_iff F rfl (fun hc18 => ?_) (fun hc18 => ?_)
  ·
   obtain ⟨b9, off9, c9, x, p, hve, hp, hrx, hAb, hbl, hrow⟩ := hV.row (i := i) (by omega)
   obtain ⟨b8, off8, c8, y, q, hue, hq, hry, hAb8, hbl8, hrow8⟩ := hU.row (i := i) (by omega)
   cases hve
   cases hue
   refine wp_skip (K10 _ _ ?_)
   refine wp_seq_k fun _ K11 => ?_
   refine wp_block ?_
   refine wp_rs fun _ K12 => F.mv rfl fun a F => F.vl (x_ixa rfl rfl (m_ixsK i Try.underlying25 el25.size rfl (by omega))) fun a F => F.vl (x_ldA wide27 (hrow _ (hB.block _ hbl)) rfl rfl) fun a F => ?_
   refine s_alloc F (by decide) zero27 fun w2 b8 a eb8 m8 B3 zb8 F => ?_
   have sB3 := B3.size
   have hB := bt hB B3
   refine F.sg rfl fun a F => ?_
   refine s_putW F rfl rfl (size_wide wide27) m8 rfl hrx.one fun w6 m8 o7 => ?_
   have so7 := o7.size
   have hB := hB.trans (o7.below (by omega))
   refine s_end (K12 _ _ ?_)
   refine wp_rs fun _ K13 => F.mv rfl fun a F => F.mv rfl fun a F => F.vl (x_ixa rfl rfl (m_ixsK i Try.underlying25 el25.size rfl (by omega))) fun a F => F.vl (x_ldA wide27 (hrow8 _ (hB.block _ hbl8)) rfl rfl) fun a F => ?_
   refine s_alloc F (by decide) zero27 fun w8 b9 a eb9 m9 B9 zb9 F => ?_
   have sB9 := B9.size
   have hB := bt hB B9
   have m8 := m8.old B9
   refine s_putW F rfl rfl (size_wide wide27) m9 rfl hry.one fun w12 m9 o13 => ?_
   have so13 := o13.size
   have hB := hB.trans (o13.below (by omega))
   have m8 := m8.only o13 (by omega)
   refine s_end (K13 _ _ ?_)
   refine wp_rs fun _ K14 => F.mv rfl fun a F => F.vl (x_ldW wide27 m8 rfl rfl) fun a F => F.vl (x_ldW wide27 m9 rfl rfl) fun a F => ?_
   refine s_callC (R := fun v w' => (∃ b, v = .bool b ∧ (b = true ↔ sameP p.ess q.ess)) ∧ Below w12.heap.size w12 w') (lb := []) F [_, _] rfl E119 rfl (by decide) (HS p q x y w12 i hp hq (hrx.bel hB) (hry.bel hB)) ?_
   rintro _ w14 a ⟨⟨b29, rfl, h29⟩, B15⟩ F
   have sB15 := B15.size
   have hB := bt hB B15
   refine F.vl (x_not rfl) fun a F => ?_
   refine s_end (K14 _ _ ?_)
   refine wp_ifb F rfl (fun hc30 => ?_) (fun hc30 => ?_)
   ·
    have hn29 : ¬ (sameP p.ess q.ess) := fun h => by have := h29.2 h; subst this; simp at hc30
    refine wp_rs fun _ K15 => F.sg rfl fun a F => ?_
    refine s_end (K15 _ _ ?_)
    refine wp_ret (inb_ret (then_ret (then_ret (inb_ret (then_ret (res_slot F rfl rfl ⟨_, rfl, ⟨false, rfl, fun h => absurd h (by decide), fun h => (hn29 (h.2 i p q hp hq)).elim⟩, hB⟩))))))
   ·
    obtain rfl : b29 = true := by simpa using hc30
    have h30 := h29.1 rfl
    refine wp_skip (K11 _ _ ?_)
    refine wp_region_lit ?_
    refine F.vl (x_addn (i + 1) (by omega) (by omega) rfl rfl) fun a F => F.mv rfl fun a F => ?_
    refine s_end (hK' _ _ (by omega) ⟨(fun j p' q' hj e1 e2 => by rcases Nat.lt_or_ge j i with h | h; (· exact hok j p' q' h e1 e2); (· obtain rfl : j = i := (by omega); rw [hp] at e1; rw [hq] at e2; cases e1; cases e2; exact h30)), hB, F.sub _ rfl⟩)
  ·
   obtain rfl : i = cs.length := by omega
   refine wp_exit (K7 _ _ ?_)
   refine wp_rs fun _ K16 => F.sg rfl fun a F => ?_
   refine s_end (K16 _ _ ?_)
   refine wp_ret (res_slot F rfl rfl ⟨_, rfl, ⟨true, rfl, fun _ => ⟨hk1, fun j p q e1 e2 => hok j p q (List.getElem?_eq_some_iff.1 e1).1 e1 e2⟩, fun _ => rfl⟩, hB⟩)
theorem kd_same {W : World} {A : Nat → Prop} {c d : CT} {x y : C8} (hx : RC W A c x) (hy : RC W A d y) (h : sameP c.ess d.ess) : x.k = y.k := by
 rw [hx.kd, hy.kd]
 cases c <;> cases d <;> simp only [CT.ess, sameP, CT.kd] at h ⊢ <;> first | exact h.elim | exact h.1 | exact h
theorem same81 : ∀ (N : Nat) (c d : CT) (x y : C8) (w0 : World), c.size < N → RC w0 (fun k => k < w0.heap.size) c x → RC w0 (fun k => k < w0.heap.size) d y → c.ess.fit → Calls Try.prog 119 #[tv x, tv y] w0 fun e w' => ∃ z, e = .returned z ∧ (∃ b, z = .bool b ∧ (b = true ↔ sameP c.ess d.ess)) ∧ Below w0.heap.size w0 w' := by
 intro N
 induction N with
 | zero => intro c d x y w0 h; omega
 | succ N ih =>
 intro c d x y w0 hN hx hy hfit
 have h3 := c.kids_le
 have hB := Below.refl w0.heap.size w0
 have sB := hB.size
 refine calls_fs 45 [(0, tv x), (1, tv y)] Try.func119 rfl rfl rfl rfl rfl fun a F => ?_
 refine wp_rs fun _ K1 => ?_
 refine s_box (tc x) F (by decide) rfl rfl fun w2 b2 a eb2 m2 B3 zb2 F => ?_
 have sB3 := B3.size
 have hB := bt hB B3
 refine s_box (tc y) F (by decide) rfl rfl fun w4 b3 a eb3 m3 B5 zb3 F => ?_
 have sB5 := B5.size
 have hB := bt hB B5
 have m2 := m2.old B5
 refine F.sg rfl fun a F => ?_
 refine s_end (K1 _ _ ?_)
 refine wp_seq_k fun _ K2 => ?_
 rcases (show x.k ≠ y.k ∨ (x.k = 1 ∧ x.k = y.k) ∨ (x.k = 2 ∧ x.k = y.k) ∨ (x.k = 7 ∧ x.k = y.k) ∨ ((x.k ≠ 1 ∧ x.k ≠ 2 ∧ x.k ≠ 7) ∧ x.k = y.k) by omega) with hk | hk | hk | hk | hk
 ·
  skip
  refine wp_rs fun _ K4 => F.vl (x_fa0 fa27_0 rfl) fun a F => F.ld m2 flat3 rfl rfl fun a F => F.vl (x_fa0 fa27_0 rfl) fun a F => F.ld m3 flat3 rfl rfl fun a F => F.vl (neqT (by omega) rfl rfl) fun a F => ?_
  refine s_end (K4 _ _ ?_)
  refine wp_if F rfl ?_
  refine wp_rs fun _ K5 => F.sg rfl fun a F => ?_
  refine s_end (K5 _ _ ?_)
  refine wp_ret (then_ret (res_slot F rfl rfl ⟨_, rfl, ⟨false, rfl, fun h => absurd h (by decide), fun h => (hk (kd_same hx hy h)).elim⟩, hB⟩))
 ·
  skip
  refine wp_rs fun _ K6 => F.vl (x_fa0 fa27_0 rfl) fun a F => F.ld m2 flat3 rfl rfl fun a F => F.vl (x_fa0 fa27_0 rfl) fun a F => F.ld m3 flat3 rfl rfl fun a F => F.vl (neqF (by omega) rfl rfl) fun a F => ?_
  refine s_end (K6 _ _ ?_)
  refine wp_if F rfl ?_
  refine wp_skip (K2 _ _ ?_)
  refine wp_seq_k fun _ K7 => ?_
  refine wp_rs fun _ K8 => F.vl (x_fa0 fa27_0 rfl) fun a F => F.ld m2 flat3 rfl rfl fun a F => ?_
  refine s_end (K8 _ _ ?_)
  refine wp_block ?_
  refine wp_rs fun _ K9 => F.vl (eqlT (by omega) rfl rfl) fun a F => F.sg rfl fun a F => ?_
  refine s_end (K9 _ _ ?_)
  refine wp_if F rfl ?_
  refine wp_rs fun _ K10 => F.vl (x_fa0 fa27_1 rfl) fun a F => F.ld m2 flat3 rfl rfl fun a F => F.vl (x_fa0 fa27_1 rfl) fun a F => F.ld m3 flat3 rfl rfl fun a F => F.vl (x_eql rfl rfl rfl) fun a F => F.sg rfl fun a F => ?_
  refine s_end (K10 _ _ ?_)
  obtain ⟨n1, m1_, rfl⟩ := hx.var_of hk.1
  obtain ⟨n2, m2_, rfl⟩ := hy.var_of (by omega)
  have hn1 : x.n = n1 := hx.2.1
  have hn2 : y.n = n2 := hy.2.1
  refine wp_ret (inb_ret (then_ret (res_slot F rfl rfl ⟨_, rfl, ⟨_, rfl, by rw [decide_eq_true_iff, hn1, hn2]; rfl⟩, hB⟩)))
 ·
  skip
  refine wp_rs fun _ K11 => F.vl (x_fa0 fa27_0 rfl) fun a F => F.ld m2 flat3 rfl rfl fun a F => F.vl (x_fa0 fa27_0 rfl) fun a F => F.ld m3 flat3 rfl rfl fun a F => F.vl (neqF (by omega) rfl rfl) fun a F => ?_
  refine s_end (K11 _ _ ?_)
  refine wp_if F rfl ?_
  refine wp_skip (K2 _ _ ?_)
  refine wp_seq_k fun _ K12 => ?_
  refine wp_rs fun _ K13 => F.vl (x_fa0 fa27_0 rfl) fun a F => F.ld m2 flat3 rfl rfl fun a F => ?_
  refine s_end (K13 _ _ ?_)
  refine wp_block ?_
  refine wp_rs fun _ K14 => F.vl (eqlF (by omega) rfl rfl) fun a F => F.sg rfl fun a F => ?_
  refine s_end (K14 _ _ ?_)
  refine wp_if F rfl ?_
  refine wp_rs fun _ K15 => F.vl (eqlT (by omega) rfl rfl) fun a F => F.sg rfl fun a F => ?_
  refine s_end (K15 _ _ ?_)
  refine wp_if F rfl ?_
  refine wp_rs fun _ K16 => F.vl (x_fa0 fa27_3 rfl) fun a F => F.vl (x_load rfl (m_loadP (vs := [_, _, _]) wide24 m2 rfl)) fun a F => F.vl (x_fa0 fa27_3 rfl) fun a F => F.vl (x_load rfl (m_loadP (vs := [_, _, _]) wide24 m3 rfl)) fun a F => ?_
  obtain ⟨l, q1, rfl⟩ := hx.sort_of hk.1
  obtain ⟨l2, q2, rfl⟩ := hy.sort_of (by omega)
  have hl1 : RLn w0 _ x.l l := hx.2.1
  have hl2 : RLn w0 _ y.l l2 := hy.2.1
  refine s_callR (R := fun v w' => ∃ b, v = .bool b ∧ (b = true ↔ eqO (slO l) (slO l2))) [_, _] F E148 rfl (by decide) ((Equal23 x.l y.l l l2 w4 (hl1.keep hB.size (fun k hk _ => hB.block k hk)).rl (hl2.keep hB.size (fun k hk _ => hB.block k hk)).rl).mono fun e w' ⟨v, h1, ⟨b, h2, h4⟩, h5⟩ => ⟨v, h1, ⟨b, h2, h4.iff (hl1.keep hB.size (fun k hk _ => hB.block k hk)).rl (hl2.keep hB.size (fun k hk _ => hB.block k hk)).rl⟩, h5⟩) ?_
  rintro _ w6 a ⟨b25, rfl, h25⟩ B7 F
  have sB7 := B7.size
  have hB := bt hB B7
  refine F.sg rfl fun a F => ?_
  refine s_end (K16 _ _ ?_)
  refine wp_ret (inb_ret (then_ret (res_slot F rfl rfl ⟨_, rfl, ⟨_, rfl, h25⟩, hB⟩)))
 ·
  skip
  refine wp_rs fun _ K17 => F.vl (x_fa0 fa27_0 rfl) fun a F => F.ld m2 flat3 rfl rfl fun a F => F.vl (x_fa0 fa27_0 rfl) fun a F => F.ld m3 flat3 rfl rfl fun a F => F.vl (neqF (by omega) rfl rfl) fun a F => ?_
  refine s_end (K17 _ _ ?_)
  refine wp_if F rfl ?_
  refine wp_skip (K2 _ _ ?_)
  refine wp_seq_k fun _ K18 => ?_
  refine wp_rs fun _ K19 => F.vl (x_fa0 fa27_0 rfl) fun a F => F.ld m2 flat3 rfl rfl fun a F => ?_
  refine s_end (K19 _ _ ?_)
  refine wp_block ?_
  refine wp_rs fun _ K20 => F.vl (eqlF (by omega) rfl rfl) fun a F => F.sg rfl fun a F => ?_
  refine s_end (K20 _ _ ?_)
  refine wp_if F rfl ?_
  refine wp_rs fun _ K21 => F.vl (eqlF (by omega) rfl rfl) fun a F => F.sg rfl fun a F => ?_
  refine s_end (K21 _ _ ?_)
  refine wp_if F rfl ?_
  refine wp_rs fun _ K22 => F.vl (eqlT (by omega) rfl rfl) fun a F => F.sg rfl fun a F => ?_
  refine s_end (K22 _ _ ?_)
  refine wp_if F rfl ?_
  by_cases hst : x.s = y.s
  ·
   obtain ⟨s1, ls1, m1_, rfl⟩ := hx.cst_of hk.1
   obtain ⟨s2, ls2, m2_, rfl⟩ := hy.cst_of (by omega)
   have hs1 : x.s = s1 := hx.2.1
   have hs2 : y.s = s2 := hy.2.1
   have hv1 : RVn w0 _ x.ls ls1 := hx.2.2.1
   have hv2 : RVn w0 _ y.ls ls2 := hy.2.2.1
   have hfl : ls1.length ≤ 9223372036854775807 := by have := hfit; simp only [CT.ess, PT.fit, List.length_map] at this; exact this
   refine wp_rs fun _ K24 => F.vl (x_fa0 fa27_2 rfl) fun a F => F.ld m2 flat9 rfl rfl fun a F => F.vl (x_fa0 fa27_2 rfl) fun a F => F.ld m3 flat9 rfl rfl fun a F => F.vl (x_eqS (b := true) (decide_eq_true hst) rfl rfl) fun a F => F.mv rfl fun a F => s_grd 33 F rfl rfl rfl <| F.vl (x_fa0 fa27_4 rfl) fun a F => s_grd 33 F rfl rfl rfl <| F.ld m2 flat22 rfl rfl fun a F => s_grd 33 F rfl rfl rfl <| F.vl (x_fa0 fa27_4 rfl) fun a F => s_grd 33 F rfl rfl rfl <| F.ld m3 flat22 rfl rfl fun a F => s_grd 33 F rfl rfl rfl ?_
   refine s_callR (R := fun v w' => ∃ b, v = .bool b ∧ (b = true ↔ ls1.length = ls2.length ∧ ∀ (i : Nat) p q, ls1[i]? = some p → ls2[i]? = some q → eqO (slO p) (slO q))) [_, _, _] F E149 rfl (by decide) (eqL116 ls1 ls2 _ _ w4 ((hv1.keep hB.size (fun k hk _ => hB.block k hk)).mono (fun k hk => by omega)) ((hv2.keep hB.size (fun k hk _ => hB.block k hk)).mono (fun k hk => by omega)) hfl) ?_
   rintro _ w8 a ⟨b38, rfl, h38⟩ B9 F
   have sB9 := B9.size
   have hB := bt hB B9
   refine F.vl (x_pick (b := true) rfl rfl) fun a F => F.sg rfl fun a F => ?_
   refine s_end (K24 _ _ ?_)
   refine wp_ret (inb_ret (then_ret (res_slot F rfl rfl ⟨_, rfl, ⟨_, rfl, by rw [h38]; simp only [CT.ess, sameP, eqOs, List.length_map]; exact ⟨fun h => ⟨by rw [← hs1, ← hs2]; exact hst, h.1, fun i o p e1 e2 => (by rw [List.getElem?_map] at e1 e2; obtain ⟨q1, e3, rfl⟩ := Option.map_eq_some_iff.1 e1; obtain ⟨q2, e4, rfl⟩ := Option.map_eq_some_iff.1 e2; exact h.2 i q1 q2 e3 e4)⟩, fun h => ⟨h.2.1, fun i p q e1 e2 => h.2.2 i (slO p) (slO q) (by rw [List.getElem?_map, e1]; rfl) (by rw [List.getElem?_map, e2]; rfl)⟩⟩⟩, hB⟩)))
  ·
   obtain ⟨s1, ls1, m1_, rfl⟩ := hx.cst_of hk.1
   obtain ⟨s2, ls2, m2_, rfl⟩ := hy.cst_of (by omega)
   have hs1 : x.s = s1 := hx.2.1
   have hs2 : y.s = s2 := hy.2.1
   have hv1 : RVn w0 _ x.ls ls1 := hx.2.2.1
   have hv2 : RVn w0 _ y.ls ls2 := hy.2.2.1
   have hfl : ls1.length ≤ 9223372036854775807 := by have := hfit; simp only [CT.ess, PT.fit, List.length_map] at this; exact this
   refine wp_rs fun _ K25 => F.vl (x_fa0 fa27_2 rfl) fun a F => F.ld m2 flat9 rfl rfl fun a F => F.vl (x_fa0 fa27_2 rfl) fun a F => F.ld m3 flat9 rfl rfl fun a F => F.vl (x_eqS (b := false) (decide_eq_false hst) rfl rfl) fun a F => F.mv rfl fun a F => s_grdn 33 F rfl rfl (by decide) fun a F => s_grdn 33 F rfl rfl (by decide) fun a F => s_grdn 33 F rfl rfl (by decide) fun a F => s_grdn 33 F rfl rfl (by decide) fun a F => s_grdn 33 F rfl rfl (by decide) fun a F => F.vl (x_pick (b := false) rfl rfl) fun a F => F.sg rfl fun a F => ?_
   refine s_end (K25 _ _ ?_)
   refine wp_ret (inb_ret (then_ret (res_slot F rfl rfl ⟨_, rfl, ⟨false, rfl, fun h => absurd h (by decide), fun h => (hst (by rw [hs1, hs2]; exact h.1)).elim⟩, hB⟩)))
 ·
  have hk : (x.k ≠ 1 ∧ x.k ≠ 2 ∧ x.k ≠ 7) ∧ x.k = y.k := hk
  refine wp_rs fun _ K26 => F.vl (x_fa0 fa27_0 rfl) fun a F => F.ld m2 flat3 rfl rfl fun a F => F.vl (x_fa0 fa27_0 rfl) fun a F => F.ld m3 flat3 rfl rfl fun a F => F.vl (neqF (by omega) rfl rfl) fun a F => ?_
  refine s_end (K26 _ _ ?_)
  refine wp_if F rfl ?_
  refine wp_skip (K2 _ _ ?_)
  refine wp_seq_k fun _ K27 => ?_
  refine wp_rs fun _ K28 => F.vl (x_fa0 fa27_0 rfl) fun a F => F.ld m2 flat3 rfl rfl fun a F => ?_
  refine s_end (K28 _ _ ?_)
  refine wp_block ?_
  refine wp_rs fun _ K29 => F.vl (eqlF (by omega) rfl rfl) fun a F => F.sg rfl fun a F => ?_
  refine s_end (K29 _ _ ?_)
  refine wp_if F rfl ?_
  refine wp_rs fun _ K30 => F.vl (eqlF (by omega) rfl rfl) fun a F => F.sg rfl fun a F => ?_
  refine s_end (K30 _ _ ?_)
  refine wp_if F rfl ?_
  refine wp_rs fun _ K31 => F.vl (eqlF (by omega) rfl rfl) fun a F => F.sg rfl fun a F => ?_
  refine s_end (K31 _ _ ?_)
  refine wp_if F rfl ?_
  refine wp_skip (K27 _ _ ?_)
  refine dk2_seq (w4.heap.size) (w4.heap.size) (ops := regOps Try.f119 10) (N := 6) (by kernel_rfl) wide_orders (by kernel_rfl) fun w10 hw10 B11 hS K32 hK32 => ?_
  have zw10 : w10.heap.size = w4.heap.size := by rw [hw10]
  have sB11 := B11.size
  have hB := bt hB B11
  have m2 := m2.old B11
  have m3 := m3.old B11
  have m2_d := m2
  have m3_d := m3
  have hB_d := hB
  refine F.dv 0 40 (.load 27 (.tmp 2)) hS (fun W hW => x_ldW wide27 (m2_d.k2 hW (by omega)) rfl rfl) fun a F => F.dv 2 42 (.load 27 (.tmp 3)) hS (fun W hW => x_ldW wide27 (m3_d.k2 hW (by omega)) rfl rfl) fun a F => ?_
  refine d1 1 (some 41) (.call (.mk (.value (.func 84)) #[(.tmp 40)] #[27])) fun ty pos af => ?_
  refine s_callR (R := fun v w' => RK w0 (fun k => k < w0.heap.size) v c.kids) [_] F E84 rfl (by decide) (kidsOf101 c x (fun k => k < w0.heap.size) w0 w10 hx) ?_
  rintro v41 w12 a hv41 B13 F
  have sB13 := B13.size
  have hB := bt hB B13
  have hS := hS.below B13
  refine s_end ⟨hS, ?_⟩
  refine d1 3 (some 43) (.call (.mk (.value (.func 84)) #[(.tmp 42)] #[27])) fun ty pos af => ?_
  refine s_callR (R := fun v w' => RK w0 (fun k => k < w0.heap.size) v d.kids) [_] F E84 rfl (by decide) (kidsOf101 d y (fun k => k < w0.heap.size) w0 w12 hy) ?_
  rintro v43 w14 a hv43 B15 F
  have sB15 := B15.size
  have hB := bt hB B15
  have hS := hS.below B15
  refine s_end ⟨hS, ?_⟩
  refine d1 4 (some 44) (.call (.mk (.value (.func 150)) #[(.tmp 41), (.tmp 43), (.func 119)] #[25, 25, 36])) fun ty pos af => ?_
  refine s_callR (R := fun v w' => ∃ b, v = .bool b ∧ (b = true ↔ c.kids.length = d.kids.length ∧ ∀ (i : Nat) p q, c.kids[i]? = some p → d.kids[i]? = some q → sameP p.ess q.ess)) [_, _, _] F E150 rfl (by decide) (eqT117 c.kids d.kids _ _ w14 ((hv41.keep hB.size (fun k hk _ => hB.block k hk)).mono (fun k hk => by omega)) ((hv43.keep hB.size (fun k hk _ => hB.block k hk)).mono (fun k hk => by omega)) (by omega) (fun p q x y w i hp hq hx2 hy2 => ih p q x y w (by have := CT.kid_size hp; omega) hx2 hy2 (PT.fit_kid hfit hp))) ?_
  rintro _ w16 a ⟨b44, rfl, h44⟩ B17 F
  have sB17 := B17.size
  have hB := bt hB B17
  have hS := hS.below B17
  refine s_end ⟨hS, ?_⟩
  refine F.dv 5 4 (.assign (.tmp 44)) hS (fun W hW => x_assign rfl) fun a F => ?_
  refine d_end (by kernel_rfl) (hK32 _ _ ?_)
  refine wp_ret (res_slot F rfl rfl ⟨_, rfl, ⟨_, rfl, by rw [h44, same_rest hx hy hk.2 hk.1]⟩, hB⟩)
theorem Same40 (c d : CT) (x y : C8) (w0 : World) (hx : RC w0 (fun k => k < w0.heap.size) c x) (hy : RC w0 (fun k => k < w0.heap.size) d y) (hfit : c.ess.fit) : Calls Try.prog 78 #[tv x, tv y] w0 fun e w' => ∃ z, e = .returned z ∧ (∃ b, z = .bool b ∧ (b = true ↔ c.ok ∧ d.ok ∧ sameP c.ess d.ess)) ∧ Below w0.heap.size w0 w' := by
 have hB := Below.refl w0.heap.size w0
 have sB := hB.size
 refine calls_fs 18 [(0, tv x), (1, tv y)] Try.func78 rfl rfl rfl rfl rfl fun a F => ?_
 refine wp_rs fun _ K1 => ?_
 refine s_box (tc x) F (by decide) rfl rfl fun w2 b2 a eb2 m2 B3 zb2 F => ?_
 have sB3 := B3.size
 have hB := bt hB B3
 refine s_box (tc y) F (by decide) rfl rfl fun w4 b3 a eb3 m3 B5 zb3 F => ?_
 have sB5 := B5.size
 have hB := bt hB B5
 have m2 := m2.old B5
 refine F.sg rfl fun a F => ?_
 refine s_end (K1 _ _ ?_)
 rcases (show ¬ c.ok ∨ (c.ok ∧ ¬ d.ok) ∨ (c.ok ∧ d.ok) by by_cases h : c.ok <;> by_cases h2 : d.ok <;> simp [h, h2]) with hk1 | ⟨hk1, hk2⟩ | ⟨hk1, hk2⟩
 ·
  skip
  refine wp_rs fun _ K3 => F.vl (x_ldW wide27 m2 rfl rfl) fun a F => ?_
  refine s_callB [_] F E50 rfl (by decide) ((isGreat66 c x w4 (hx.bel hB)).mono fun e w' h => ⟨by rw [h.1, decide_eq_true hk1], h.2⟩) fun w6 a B7 F => ?_
  have sB7 := B7.size
  have hB := bt hB B7
  refine F.vl (x_not rfl) fun a F => F.mv rfl fun a F => s_grdn 8 F rfl rfl (by decide) fun a F => s_grdn 8 F rfl rfl (by decide) fun a F => s_grdn 8 F rfl rfl (by decide) fun a F => F.vl (x_pick (b := false) rfl rfl) fun a F => F.mv rfl fun a F => s_grdn 13 F rfl rfl (by decide) fun a F => s_grdn 13 F rfl rfl (by decide) fun a F => s_grdn 13 F rfl rfl (by decide) fun a F => F.vl (x_pick (b := false) rfl rfl) fun a F => F.sg rfl fun a F => ?_
  refine s_end (K3 _ _ ?_)
  refine wp_ret (res_slot F rfl rfl ⟨_, rfl, ⟨false, rfl, fun h => absurd h (by decide), fun h => (hk1 h.1).elim⟩, hB⟩)
 ·
  skip
  refine wp_rs fun _ K4 => F.vl (x_ldW wide27 m2 rfl rfl) fun a F => ?_
  refine s_callB [_] F E50 rfl (by decide) ((isGreat66 c x w4 (hx.bel hB)).mono fun e w' h => ⟨by rw [h.1, decide_eq_false (fun h => h hk1)], h.2⟩) fun w8 a B9 F => ?_
  have sB9 := B9.size
  have hB := bt hB B9
  have m3 := m3.old B9
  refine F.vl (x_not rfl) fun a F => F.mv rfl fun a F => s_grd 8 F rfl rfl rfl <| F.vl (x_ldW wide27 m3 rfl rfl) fun a F => s_grd 8 F rfl rfl rfl ?_
  refine s_callB [_] F E50 rfl (by decide) ((isGreat66 d y w8 (hy.bel hB)).mono fun e w' h => ⟨by rw [h.1, decide_eq_true hk2], h.2⟩) fun w10 a B11 F => ?_
  have sB11 := B11.size
  have hB := bt hB B11
  refine s_grd 8 F rfl rfl rfl <| F.vl (x_not rfl) fun a F => F.vl (x_pick (b := true) rfl rfl) fun a F => F.mv rfl fun a F => s_grdn 13 F rfl rfl (by decide) fun a F => s_grdn 13 F rfl rfl (by decide) fun a F => s_grdn 13 F rfl rfl (by decide) fun a F => F.vl (x_pick (b := false) rfl rfl) fun a F => F.sg rfl fun a F => ?_
  refine s_end (K4 _ _ ?_)
  refine wp_ret (res_slot F rfl rfl ⟨_, rfl, ⟨false, rfl, fun h => absurd h (by decide), fun h => (hk2 h.2.1).elim⟩, hB⟩)
 ·
  skip
  refine wp_rs fun _ K5 => F.vl (x_ldW wide27 m2 rfl rfl) fun a F => ?_
  refine s_callB [_] F E50 rfl (by decide) ((isGreat66 c x w4 (hx.bel hB)).mono fun e w' h => ⟨by rw [h.1, decide_eq_false (fun h => h hk1)], h.2⟩) fun w12 a B13 F => ?_
  have sB13 := B13.size
  have hB := bt hB B13
  have m2 := m2.old B13
  have m3 := m3.old B13
  refine F.vl (x_not rfl) fun a F => F.mv rfl fun a F => s_grd 8 F rfl rfl rfl <| F.vl (x_ldW wide27 m3 rfl rfl) fun a F => s_grd 8 F rfl rfl rfl ?_
  refine s_callB [_] F E50 rfl (by decide) ((isGreat66 d y w12 (hy.bel hB)).mono fun e w' h => ⟨by rw [h.1, decide_eq_false (fun h => h hk2)], h.2⟩) fun w14 a B15 F => ?_
  have sB15 := B15.size
  have hB := bt hB B15
  have m2 := m2.old B15
  have m3 := m3.old B15
  refine s_grd 8 F rfl rfl rfl <| F.vl (x_not rfl) fun a F => F.vl (x_pick (b := true) rfl rfl) fun a F => F.mv rfl fun a F => s_grd 13 F rfl rfl rfl <| F.vl (x_ldW wide27 m2 rfl rfl) fun a F => s_grd 13 F rfl rfl rfl <| F.vl (x_ldW wide27 m3 rfl rfl) fun a F => s_grd 13 F rfl rfl rfl ?_
  refine s_callR (R := fun v w' => ∃ b, v = .bool b ∧ (b = true ↔ sameP c.ess d.ess)) [_, _] F E119 rfl (by decide) (same81 (c.size + 1) c d x y w14 (by omega) (hx.bel hB) (hy.bel hB) hfit) ?_
  rintro _ w16 a ⟨b16, rfl, h16⟩ B17 F
  have sB17 := B17.size
  have hB := bt hB B17
  refine F.vl (x_pick (b := true) rfl rfl) fun a F => F.sg rfl fun a F => ?_
  refine s_end (K5 _ _ ?_)
  refine wp_ret (res_slot F rfl rfl ⟨_, rfl, ⟨_, rfl, by rw [h16]; exact ⟨fun h => ⟨hk1, hk2, h⟩, fun h => h.2.2⟩⟩, hB⟩)
end Go.Proofs.Ytmkjhdiepkpdoaa

namespace Go.Proofs.Ytmkjhdiepkpdoaa
set_option maxRecDepth 100000
set_option maxHeartbeats 1600000
open Go.RowKit Go.Shelf
set_option linter.unusedVariables false
set_option linter.unusedSimpArgs false
theorem mxl_take {K : List Int} {i : Nat} (h : i < K.length) : mxl (K.take (i + 1)) = max (mxl (K.take i)) (gt K i) := by
 rw [mxl, List.take_add_one, List.getElem?_eq_getElem h, gt_lt h, List.foldl_append]; rfl
theorem setl_step {c : Int} {K : List Int} {i : Nat} (h : i < K.length) (hc : 0 ≤ c) : (gt K i ≥ setl c (K.take i) → setl c (K.take (i + 1)) = 0) ∧ (¬ gt K i ≥ setl c (K.take i) → setl c (K.take (i + 1)) = setl c (K.take i)) := by
 have h1 := setl_is c (K.take i)
 have h2 := setl_is c (K.take (i + 1))
 rw [mxl_take h] at h2
 omega
theorem trim_step {ks : List Int} {f : Nat} (h : f + 1 ≤ ks.length) (hn : gt ks f < 0) : trim (f + 1) (ks.take (f + 1)) = trim f (ks.take f) := by
 have hl : (ks.take (f + 1)).length = f + 1 := by rw [List.length_take]; omega
 rw [trim, hl, if_pos ⟨by omega, by rw [gt_take, if_pos (by omega)]; exact hn⟩, List.take_take]
 congr 2
 omega
theorem trim_stop {ks : List Int} {f : Nat} (h : f ≤ ks.length) (hn : f = 0 ∨ ¬ gt ks (f - 1) < 0) : trim f (ks.take f) = ks.take f := by
 have hl : (ks.take f).length = f := by rw [List.length_take]; omega
 cases f with
 | zero => rfl
 | succ f => rw [trim, if_neg]; rw [hl, gt_take, if_pos (by omega)]; rintro ⟨_, h2⟩; rcases hn with hn | hn; omega; exact hn h2
theorem ints_take (ks : List Int) (m : Nat) : ints (ks.take m) = (ints ks).take m := List.map_take
theorem rd_take {W : World} {a : Option Addr} {c : Nat} {ks : List Int} (h : Rd W (.slice a ks.length c) 1 ks.length (ints ks)) (m : Nat) (hm : m ≤ ks.length) : Rd W (.slice a m c) 1 (ks.take m).length (ints (ks.take m)) := by
 have := h.upto m hm
 rw [Nat.mul_one] at this
 rw [ints_take, show (ks.take m).length = m by rw [List.length_take]; omega]
 exact this
theorem tidy61 (c : Int) (ks : List Int) (v : Value) (w0 : World) (hc : 0 ≤ c) (hl : ks.length ≤ 1000000) (hV : Rd w0 v 1 ks.length (ints ks)) : Calls Try.prog 167 #[.agg [.int .i64 c, v].toArray] w0 fun e w' => ∃ u, e = .returned u ∧ (∃ v', u = .agg [.int .i64 (setl c (tidyK ks)), v'].toArray ∧ Rd w' v' 1 (tidyK ks).length (ints (tidyK ks)) ∧ v'.ownBlock = v.ownBlock) ∧ Below w0.heap.size w0 w' := by
 obtain ⟨av, cv, rfl, hcv⟩ := hV.form
 have hB := Below.refl w0.heap.size w0
 have sB := hB.size
 refine calls_fs 42 [(0, .agg [.int .i64 c, .slice av ks.length cv].toArray)] Try.func167 rfl rfl rfl rfl rfl fun a F => ?_
 refine wp_rs fun _ K1 => ?_
 refine s_box ([.int .i64 c, .slice av ks.length cv]) F (by decide) rfl rfl fun w2 b1 a eb1 m1 B3 zb1 F => ?_
 have sB3 := B3.size
 have hB := bt hB B3
 refine s_alloc F (by decide) zero36 fun w4 b2 a eb2 m2 B5 zb2 F => ?_
 have sB5 := B5.size
 have hB := bt hB B5
 have m1 := m1.old B5
 refine s_end (K1 _ _ ?_)
 refine wp_seq_k fun _ K2 => ?_
 refine wp_block ?_
 refine wp_up ks.length (fun j a w => tidyK ks = trim (ks.length - j) (ks.take (ks.length - j)) ∧ Blk w b1 156 [.int .i64 c, .slice av (ks.length - j) cv] ∧ Blk w b2 156 [.int .i64 0, .slice none 0 0] ∧ Below w0.heap.size w0 w ∧ Fs 42 a [(1, .pointer (some ⟨b1, 0, none⟩)), (2, .pointer (some ⟨b2, 0, none⟩))]) ⟨by rw [Nat.sub_zero, List.take_length, tidyK], m1, m2, hB, F.sub _ rfl⟩ ?_
 have hb12 : w0.heap.size ≤ b1 ∧ w0.heap.size ≤ b2 ∧ b1 ≠ b2 := ⟨by omega, by omega, by omega⟩
 repeat clear F
 clear hB m1 m2 eb1 eb2 zb1 zb2
 rintro j a w hj ⟨htr, m1, m2, hB, F⟩ K' hK'
 have sB := hB.size
 obtain ⟨m, hm⟩ : ∃ m, m = ks.length - j := ⟨_, rfl⟩
 rw [← hm] at htr m1
 refine wp_seq_k fun _ K3 => ?_
 rcases (show m = 0 ∨ (0 < m ∧ gt ks (m - 1) < 0) ∨ (0 < m ∧ 0 ≤ gt ks (m - 1)) by omega) with hq | hq | hq
 ·
  have hst : tidyK ks = ks.take m := by rw [htr]; exact trim_stop (by omega) (by omega)
  refine wp_rs fun _ K5 => F.vl (x_fa0 fa36_1 rfl) fun a F => F.ld m1 flat29 rfl rfl fun a F => F.vl (x_len Try.underlying117 rfl) fun a F => F.vl (gtrF (by omega) rfl rfl) fun a F => F.mv rfl fun a F => s_grdn 9 F rfl rfl (by decide) fun a F => s_grdn 9 F rfl rfl (by decide) fun a F => s_grdn 9 F rfl rfl (by decide) fun a F => s_grdn 9 F rfl rfl (by decide) fun a F => s_grdn 9 F rfl rfl (by decide) fun a F => s_grdn 9 F rfl rfl (by decide) fun a F => s_grdn 9 F rfl rfl (by decide) fun a F => s_grdn 9 F rfl rfl (by decide) fun a F => s_grdn 9 F rfl rfl (by decide) fun a F => F.vl (x_pick (b := false) rfl rfl) fun a F => ?_
  refine s_end (K5 _ _ ?_)
  refine wp_if F rfl ?_
  refine wp_exit (K2 _ _ ?_)
  refine wp_seq_k fun _ K6 => ?_
  refine wp_rs fun _ K7 => F.vl (x_fa0 fa36_1 rfl) fun a F => F.ld m1 flat29 rfl rfl fun a F => F.vl (x_len Try.underlying117 rfl) fun a F => F.mv rfl fun a F => ?_
  refine s_end (K7 _ _ ?_)
  refine wp_block ?_
  refine wp_up m (fun i a w => Blk w b1 156 [.int .i64 (setl c ((ks.take m).take i)), .slice av m cv] ∧ Blk w b2 156 [.int .i64 0, .slice none 0 0] ∧ Below w0.heap.size w0 w ∧ Fs 42 a [(31, .int .i64 (i : Int)), (30, .int .i64 (m : Int)), (29, .slice av m cv), (1, .pointer (some ⟨b1, 0, none⟩)), (2, .pointer (some ⟨b2, 0, none⟩))]) ⟨by rw [show setl c ((ks.take m).take 0) = c by have := setl_is c []; have h2 : mxl [] = -1 := rfl; rw [List.take_zero]; omega]; exact m1, m2, hB, F.sub _ rfl⟩ ?_
  clear F hB m1 m2
  rintro i a w hi ⟨m1, m2, hB, F⟩ K' hK'
  have sB := hB.size
  refine wp_rs fun _ K8 => F.vl (x_lss rfl rfl rfl) fun a F => ?_
  refine s_end (K8 _ _ ?_)
  refine wp_seq_k fun _ K9 => ?_
  refine wp_iff F rfl (fun hc32 => ?_) (fun hc32 => ?_)
  ·
   obtain ⟨b4, off4, c4, hve, hrow2⟩ := rd_rowI (rd_take hV m (by omega)) (i := i) (by rw [List.length_take]; omega)
   rw [List.length_take, Nat.min_eq_left (by omega)] at hve
   cases hve
   have hss := setl_step (c := c) (K := ks.take m) (i := i) (by rw [List.length_take]; omega) hc
   refine wp_skip (K9 _ _ ?_)
   refine wp_seq_k fun _ K10 => ?_
   refine wp_block ?_
   refine wp_rs fun _ K11 => F.vl (x_ixa rfl rfl (m_ixs i Try.underlying117 el29.size rfl (by omega))) fun a F => F.vl (x_load rfl (m_load flat3 (hrow2 _ hB))) fun a F => F.sg rfl fun a F => ?_
   refine s_end (K11 _ _ ?_)
   refine wp_rs fun _ K12 => F.mv rfl fun a F => F.vl (x_fa0 fa36_0 rfl) fun a F => F.ld m1 flat3 rfl rfl fun a F => F.vl (x_geq rfl rfl rfl) fun a F => ?_
   refine s_end (K12 _ _ ?_)
   refine wp_iff F rfl (fun hc38 => ?_) (fun hc38 => ?_)
   ·
    have hs2 := hss.1 hc38
    refine wp_region_lit ?_
    refine F.vl (x_fa0 fa36_0 rfl) fun a F => ?_
    refine s_put F rfl rfl flat3 m1 (by simp) rfl fun w6 m1 o7 => ?_
    have so7 := o7.size
    have hB := hB.trans (o7.below (by omega))
    have m2 := m2.only o7 (by omega)
    refine s_end (K10 _ _ ?_)
    refine wp_region_lit ?_
    refine F.vl (x_addn (i + 1) (by omega) (by omega) rfl rfl) fun a F => F.mv rfl fun a F => ?_
    refine s_end (hK' _ _ (by omega) ⟨by rw [hs2]; exact m1, m2, hB, F.sub _ rfl⟩)
   ·
    have hs2 := hss.2 hc38
    refine wp_skip (K10 _ _ ?_)
    refine wp_region_lit ?_
    refine F.vl (x_addn (i + 1) (by omega) (by omega) rfl rfl) fun a F => F.mv rfl fun a F => ?_
    refine s_end (hK' _ _ (by omega) ⟨by rw [hs2]; exact m1, m2, hB, F.sub _ rfl⟩)
  ·
   refine wp_exit (K6 _ _ ?_)
   refine wp_rs fun _ K13 => F.vl (x_ldW wide36 m1 rfl rfl) fun a F => ?_
   refine s_putW F rfl rfl (size_wide wide36) m2 rfl (one2 rfl) fun w8 m2 o9 => ?_
   have so9 := o9.size
   have hB := hB.trans (o9.below (by omega))
   refine s_end (K13 _ _ ?_)
   obtain rfl : i = m := by omega
   rw [show (ks.take i).take i = tidyK ks by rw [List.take_take, Nat.min_self]; exact hst.symm] at m2
   refine wp_ret (res_cell F rfl rfl m2 wide36 ⟨_, rfl, ⟨_, rfl, by rw [hst]; exact (rd_take hV i (by omega)).below hB, by first | rfl | (cases av <;> rfl)⟩, hB⟩)
 ·
  have hst : tidyK ks = trim (m - 1) (ks.take (m - 1)) := by rw [htr]; have := trim_step (ks := ks) (f := m - 1) (by omega) hq.2; rwa [show m - 1 + 1 = m by omega] at this
  obtain ⟨b3, off3, c3, hve, hrow⟩ := rd_rowI (rd_take hV m (by omega)) (i := m - 1) (by rw [List.length_take]; omega)
  rw [List.length_take, Nat.min_eq_left (by omega)] at hve
  cases hve
  rw [gt_take, if_pos (by omega)] at hrow
  refine wp_rs fun _ K14 => F.vl (x_fa0 fa36_1 rfl) fun a F => F.ld m1 flat29 rfl rfl fun a F => F.vl (x_len Try.underlying117 rfl) fun a F => F.vl (gtrT (by omega) rfl rfl) fun a F => F.mv rfl fun a F => s_grd 9 F rfl rfl rfl <| F.vl (x_fa0 fa36_1 rfl) fun a F => s_grd 9 F rfl rfl rfl <| F.ld m1 flat29 rfl rfl fun a F => s_grd 9 F rfl rfl rfl <| F.vl (x_fa0 fa36_1 rfl) fun a F => s_grd 9 F rfl rfl rfl <| F.ld m1 flat29 rfl rfl fun a F => s_grd 9 F rfl rfl rfl <| F.vl (x_len Try.underlying117 rfl) fun a F => s_grd 9 F rfl rfl rfl <| F.vl (x_subn (m - 1) (by omega) (by omega) rfl rfl) fun a F => s_grd 9 F rfl rfl rfl <| F.vl (x_ixa rfl rfl (m_ixs (m - 1) Try.underlying117 el29.size rfl (by omega))) fun a F => s_grd 9 F rfl rfl rfl <| F.vl (x_load rfl (m_load flat3 (hrow _ hB))) fun a F => s_grd 9 F rfl rfl rfl <| F.vl (lssT (by omega) rfl rfl) fun a F => F.vl (x_pick (b := true) rfl rfl) fun a F => ?_
  refine s_end (K14 _ _ ?_)
  refine wp_if F rfl ?_
  refine wp_skip (K3 _ _ ?_)
  refine wp_block ?_
  refine wp_region_lit ?_
  refine F.vl (x_fa0 fa36_1 rfl) fun a F => F.ld m1 flat29 rfl rfl fun a F => F.vl (x_fa0 fa36_1 rfl) fun a F => F.ld m1 flat29 rfl rfl fun a F => F.vl (x_len Try.underlying117 rfl) fun a F => F.vl (x_subn (m - 1) (by omega) (by omega) rfl rfl) fun a F => F.vl (x_slice (vlo := none) (vhi := some (.int .i64 ((m - 1 : Nat) : Int))) (vmx := none) rfl rfl rfl rfl (m_sliceUK (m - 1) Try.underlying117 el29.size rfl (by omega))) fun a F => F.vl (x_fa0 fa36_1 rfl) fun a F => ?_
  refine s_put F rfl rfl flat29 m1 (by simp) rfl fun w10 m1 o11 => ?_
  have so11 := o11.size
  have hB := hB.trans (o11.below (by omega))
  have m2 := m2.only o11 (by omega)
  refine s_end (hK' _ _ (by omega) ⟨by rw [show ks.length - (j + 1) = m - 1 by omega]; exact hst, by rw [show ks.length - (j + 1) = m - 1 by omega]; exact m1, m2, hB, F.sub _ rfl⟩)
 ·
  have hst : tidyK ks = ks.take m := by rw [htr]; exact trim_stop (by omega) (by omega)
  obtain ⟨b3, off3, c3, hve, hrow⟩ := rd_rowI (rd_take hV m (by omega)) (i := m - 1) (by rw [List.length_take]; omega)
  rw [List.length_take, Nat.min_eq_left (by omega)] at hve
  cases hve
  rw [gt_take, if_pos (by omega)] at hrow
  refine wp_rs fun _ K15 => F.vl (x_fa0 fa36_1 rfl) fun a F => F.ld m1 flat29 rfl rfl fun a F => F.vl (x_len Try.underlying117 rfl) fun a F => F.vl (gtrT (by omega) rfl rfl) fun a F => F.mv rfl fun a F => s_grd 9 F rfl rfl rfl <| F.vl (x_fa0 fa36_1 rfl) fun a F => s_grd 9 F rfl rfl rfl <| F.ld m1 flat29 rfl rfl fun a F => s_grd 9 F rfl rfl rfl <| F.vl (x_fa0 fa36_1 rfl) fun a F => s_grd 9 F rfl rfl rfl <| F.ld m1 flat29 rfl rfl fun a F => s_grd 9 F rfl rfl rfl <| F.vl (x_len Try.underlying117 rfl) fun a F => s_grd 9 F rfl rfl rfl <| F.vl (x_subn (m - 1) (by omega) (by omega) rfl rfl) fun a F => s_grd 9 F rfl rfl rfl <| F.vl (x_ixa rfl rfl (m_ixs (m - 1) Try.underlying117 el29.size rfl (by omega))) fun a F => s_grd 9 F rfl rfl rfl <| F.vl (x_load rfl (m_load flat3 (hrow _ hB))) fun a F => s_grd 9 F rfl rfl rfl <| F.vl (lssF (by omega) rfl rfl) fun a F => F.vl (x_pick (b := true) rfl rfl) fun a F => ?_
  refine s_end (K15 _ _ ?_)
  refine wp_if F rfl ?_
  refine wp_exit (K2 _ _ ?_)
  refine wp_seq_k fun _ K16 => ?_
  refine wp_rs fun _ K17 => F.vl (x_fa0 fa36_1 rfl) fun a F => F.ld m1 flat29 rfl rfl fun a F => F.vl (x_len Try.underlying117 rfl) fun a F => F.mv rfl fun a F => ?_
  refine s_end (K17 _ _ ?_)
  refine wp_block ?_
  refine wp_up m (fun i a w => Blk w b1 156 [.int .i64 (setl c ((ks.take m).take i)), .slice (some ⟨b3, off3, none⟩) m cv] ∧ Blk w b2 156 [.int .i64 0, .slice none 0 0] ∧ Below w0.heap.size w0 w ∧ Fs 42 a [(31, .int .i64 (i : Int)), (30, .int .i64 (m : Int)), (29, .slice (some ⟨b3, off3, none⟩) m cv), (1, .pointer (some ⟨b1, 0, none⟩)), (2, .pointer (some ⟨b2, 0, none⟩))]) ⟨by rw [show setl c ((ks.take m).take 0) = c by have := setl_is c []; have h2 : mxl [] = -1 := rfl; rw [List.take_zero]; omega]; exact m1, m2, hB, F.sub _ rfl⟩ ?_
  clear F hB m1 m2
  rintro i a w hi ⟨m1, m2, hB, F⟩ K' hK'
  have sB := hB.size
  refine wp_rs fun _ K18 => F.vl (x_lss rfl rfl rfl) fun a F => ?_
  refine s_end (K18 _ _ ?_)
  refine wp_seq_k fun _ K19 => ?_
  refine wp_iff F rfl (fun hc32 => ?_) (fun hc32 => ?_)
  ·
   obtain ⟨b4, off4, c4, hve, hrow2⟩ := rd_rowI (rd_take hV m (by omega)) (i := i) (by rw [List.length_take]; omega)
   rw [List.length_take, Nat.min_eq_left (by omega)] at hve
   cases hve
   have hss := setl_step (c := c) (K := ks.take m) (i := i) (by rw [List.length_take]; omega) hc
   refine wp_skip (K19 _ _ ?_)
   refine wp_seq_k fun _ K20 => ?_
   refine wp_block ?_
   refine wp_rs fun _ K21 => F.vl (x_ixa rfl rfl (m_ixs i Try.underlying117 el29.size rfl (by omega))) fun a F => F.vl (x_load rfl (m_load flat3 (hrow2 _ hB))) fun a F => F.sg rfl fun a F => ?_
   refine s_end (K21 _ _ ?_)
   refine wp_rs fun _ K22 => F.mv rfl fun a F => F.vl (x_fa0 fa36_0 rfl) fun a F => F.ld m1 flat3 rfl rfl fun a F => F.vl (x_geq rfl rfl rfl) fun a F => ?_
   refine s_end (K22 _ _ ?_)
   refine wp_iff F rfl (fun hc38 => ?_) (fun hc38 => ?_)
   ·
    have hs2 := hss.1 hc38
    refine wp_region_lit ?_
    refine F.vl (x_fa0 fa36_0 rfl) fun a F => ?_
    refine s_put F rfl rfl flat3 m1 (by simp) rfl fun w12 m1 o13 => ?_
    have so13 := o13.size
    have hB := hB.trans (o13.below (by omega))
    have m2 := m2.only o13 (by omega)
    refine s_end (K20 _ _ ?_)
    refine wp_region_lit ?_
    refine F.vl (x_addn (i + 1) (by omega) (by omega) rfl rfl) fun a F => F.mv rfl fun a F => ?_
    refine s_end (hK' _ _ (by omega) ⟨by rw [hs2]; exact m1, m2, hB, F.sub _ rfl⟩)
   ·
    have hs2 := hss.2 hc38
    refine wp_skip (K20 _ _ ?_)
    refine wp_region_lit ?_
    refine F.vl (x_addn (i + 1) (by omega) (by omega) rfl rfl) fun a F => F.mv rfl fun a F => ?_
    refine s_end (hK' _ _ (by omega) ⟨by rw [hs2]; exact m1, m2, hB, F.sub _ rfl⟩)
  ·
   refine wp_exit (K16 _ _ ?_)
   refine wp_rs fun _ K23 => F.vl (x_ldW wide36 m1 rfl rfl) fun a F => ?_
   refine s_putW F rfl rfl (size_wide wide36) m2 rfl (one2 rfl) fun w14 m2 o15 => ?_
   have so15 := o15.size
   have hB := hB.trans (o15.below (by omega))
   refine s_end (K23 _ _ ?_)
   obtain rfl : i = m := by omega
   rw [show (ks.take i).take i = tidyK ks by rw [List.take_take, Nat.min_self]; exact hst.symm] at m2
   refine wp_ret (res_cell F rfl rfl m2 wide36 ⟨_, rfl, ⟨_, rfl, by rw [hst]; exact (rd_take hV i (by omega)).below hB, by first | rfl | (cases av <;> rfl)⟩, hB⟩)
theorem x_imaxN {P : Program} {n : Nat} {l : List (Nat × Value)} {w : World} {x y : Operand} {ts : Array TypeId} {p q N : Nat} (h : N = max p q) (hx : ov l x = some (.int .i64 (p : Int))) (hy : ov l y = some (.int .i64 (q : Int))) : Runs P n l w (.call { callee := .builtin .max, args := #[x, y], argTypes := ts }) (.int .i64 (N : Int)) := by
 have := x_imax (P := P) (n := n) (w := w) (ts := ts) hx hy
 rwa [show max (p : Int) (q : Int) = (N : Int) by omega] at this
theorem both43 (c d : Int) (A B : List Int) (u v : Value) (w0 : World) (hc : 0 ≤ c) (hd : 0 ≤ d) (hA0 : A.length ≤ 100000) (hB0 : B.length ≤ 100000) (hLA : Lo A) (hLB : Lo B) (hU : Rd w0 u 1 A.length (ints A)) (hV : Rd w0 v 1 B.length (ints B)) : Calls Try.prog 153 #[.agg [.int .i64 c, u].toArray, .agg [.int .i64 d, v].toArray] w0 fun e w' => ∃ z, e = .returned z ∧ (∃ v', z = .agg [.int .i64 (setl (max c d) (tidyK (bothK A B))), v'].toArray ∧ Rd w' v' 1 (tidyK (bothK A B)).length (ints (tidyK (bothK A B))) ∧ ∀ j, v'.ownBlock = some j → w0.heap.size ≤ j) ∧ Below w0.heap.size w0 w' := by
 obtain ⟨au, cu, rfl, _⟩ := hU.form
 obtain ⟨av, cv, rfl, _⟩ := hV.form
 obtain ⟨N, hN⟩ : ∃ N, N = max A.length B.length := ⟨_, rfl⟩
 have hB := Below.refl w0.heap.size w0
 have sB := hB.size
 refine calls_fs 55 [(0, .agg [.int .i64 c, .slice au A.length cu].toArray), (1, .agg [.int .i64 d, .slice av B.length cv].toArray)] Try.func153 rfl rfl rfl rfl rfl fun a F => ?_
 refine wp_rs fun _ K1 => ?_
 refine s_box ([.int .i64 c, .slice au A.length cu]) F (by decide) rfl rfl fun w2 b2 a eb2 m2 B3 zb2 F => ?_
 have sB3 := B3.size
 have hB := bt hB B3
 refine s_box ([.int .i64 d, .slice av B.length cv]) F (by decide) rfl rfl fun w4 b3 a eb3 m3 B5 zb3 F => ?_
 have sB5 := B5.size
 have hB := bt hB B5
 have m2 := m2.old B5
 refine s_alloc F (by decide) zero36 fun w6 b4 a eb4 m4 B7 zb4 F => ?_
 have sB7 := B7.size
 have hB := bt hB B7
 have m2 := m2.old B7
 have m3 := m3.old B7
 refine s_end (K1 _ _ ?_)
 refine wp_rs fun _ K2 => F.vl (x_fa0 fa36_0 rfl) fun a F => F.ld m2 flat3 rfl rfl fun a F => F.vl (x_fa0 fa36_0 rfl) fun a F => F.ld m3 flat3 rfl rfl fun a F => F.vl (x_imax rfl rfl) fun a F => F.vl (x_build (vs := [(0, _)]) rfl (b36_0 _ _)) fun a F => ?_
 refine s_alloc F (by decide) zero36 fun w8 b5 a eb5 m5 B9 zb5 F => ?_
 have sB9 := B9.size
 have hB := bt hB B9
 have m2 := m2.old B9
 have m3 := m3.old B9
 have m4 := m4.old B9
 refine s_putW F rfl rfl (size_wide wide36) m5 rfl (one2 rfl) fun w10 m5 o11 => ?_
 have so11 := o11.size
 have hB := hB.trans (o11.below (by omega))
 have m2 := m2.only o11 (by omega)
 have m3 := m3.only o11 (by omega)
 have m4 := m4.only o11 (by omega)
 refine s_end (K2 _ _ ?_)
 refine wp_seq_k fun _ K3 => ?_
 obtain ⟨bz, hbz⟩ : ∃ b, b = b5 := ⟨_, rfl⟩
 have hbb : w0.heap.size ≤ b2 ∧ b2 < b3 ∧ b3 < b4 ∧ b4 < b5 := ⟨by omega, by omega, by omega, by omega⟩
 refine wp_rs fun _ K4 => F.vl (x_fa0 fa36_1 rfl) fun a F => F.ld m2 flat29 rfl rfl fun a F => F.vl (x_len Try.underlying117 rfl) fun a F => F.vl (x_fa0 fa36_1 rfl) fun a F => F.ld m3 flat29 rfl rfl fun a F => F.vl (x_len Try.underlying117 rfl) fun a F => F.vl (x_imaxN hN rfl rfl) fun a F => F.mv rfl fun a F => ?_
 refine s_end (K4 _ _ ?_)
 refine wp_block ?_
 refine wp_up N (fun i a w => ∃ v' o', FA 156 w0.heap.size w b5 o' v' (max c d) ((List.range i).map fun i => max (gt A i) (gt B i)) ∧ (o' = b5 ∨ bz < o') ∧ Blk w b2 156 [.int .i64 c, .slice au A.length cu] ∧ Blk w b3 156 [.int .i64 d, .slice av B.length cv] ∧ Blk w b4 156 [.int .i64 0, .slice none 0 0] ∧ Below w0.heap.size w0 w ∧ Fs 55 a [(21, .int .i64 (i : Int)), (20, .int .i64 (N : Int)), (2, .pointer (some ⟨b2, 0, none⟩)), (3, .pointer (some ⟨b3, 0, none⟩)), (4, .pointer (some ⟨b4, 0, none⟩)), (5, .pointer (some ⟨b5, 0, none⟩))]) ⟨_, b5, FA.start m5 (by omega), .inl rfl, m2, m3, m4, hB, F.sub _ rfl⟩ ?_
 clear F hB m2 m3 m4 m5
 rintro i a w hi ⟨vv, o2, hA, ho2, m2, m3, m4, hB, F⟩ K' hK'
 have sB := hB.size
 obtain ⟨L, hL⟩ : ∃ L, L = (List.range i).map fun i => max (gt A i) (gt B i) := ⟨_, rfl⟩
 rw [← hL] at hA
 have hLl : L.length = i := by rw [hL]; simp
 have mg := hA.blk
 have hO := hA.own
 have hat := hA.at'
 have hne := hA.ne
 have hlo := hA.lo
 have hgl := mg.lt
 obtain ⟨ag, cg, rfl, hcg⟩ := hA.form
 refine wp_rs fun _ K5 => F.vl (x_lss (b := decide (i < N)) (decide_eq_decide.2 (by omega)) rfl rfl) fun a F => ?_
 refine s_end (K5 _ _ ?_)
 refine wp_seq_k fun _ K6 => ?_
 refine wp_iff F rfl (fun hc22 => ?_) (fun hc22 => ?_)
 ·
  refine wp_skip (K6 _ _ ?_)
  refine wp_seq_k fun _ K7 => ?_
  refine wp_block ?_
  refine wp_rs fun _ K8 => F.mv rfl fun a F => F.sg rfl fun a F => ?_
  refine s_end (K8 _ _ ?_)
  refine wp_rs fun _ K9 => F.sg rfl fun a F => ?_
  refine s_end (K9 _ _ ?_)
  refine wp_seq_k fun _ K10 => ?_
  refine wp_rs fun _ K11 => F.mv rfl fun a F => F.vl (x_fa0 fa36_1 rfl) fun a F => F.ld m2 flat29 rfl rfl fun a F => F.vl (x_len Try.underlying117 rfl) fun a F => F.vl (x_lss (b := decide (i < A.length)) (decide_eq_decide.2 (by omega)) rfl rfl) fun a F => ?_
  refine s_end (K11 _ _ ?_)
  refine wp_iff F rfl (fun hc28 => ?_) (fun hc28 => ?_)
  ·
   have hLAi := hLA.gt i
   obtain ⟨b6, off6, c6, hve, hrow1⟩ := rd_rowI hU (i := i) (by omega)
   cases hve
   refine wp_region_lit ?_
   refine F.vl (x_fa0 fa36_1 rfl) fun a F => F.ld m2 flat29 rfl rfl fun a F => F.mv rfl fun a F => F.vl (x_ixa rfl rfl (m_ixs i Try.underlying117 el29.size rfl (by omega))) fun a F => F.vl (x_load rfl (m_load flat3 (hrow1 _ hB))) fun a F => F.sg rfl fun a F => ?_
   refine s_end (K10 _ _ ?_)
   refine wp_seq_k fun _ K12 => ?_
   refine wp_rs fun _ K13 => F.mv rfl fun a F => F.vl (x_fa0 fa36_1 rfl) fun a F => F.ld m3 flat29 rfl rfl fun a F => F.vl (x_len Try.underlying117 rfl) fun a F => F.vl (x_lss (b := decide (i < B.length)) (decide_eq_decide.2 (by omega)) rfl rfl) fun a F => ?_
   refine s_end (K13 _ _ ?_)
   refine wp_iff F rfl (fun hc38 => ?_) (fun hc38 => ?_)
   ·
    obtain ⟨b7, off7, c7, hve, hrow2⟩ := rd_rowI hV (i := i) (by omega)
    cases hve
    refine wp_region_lit ?_
    refine F.mv rfl fun a F => F.vl (x_fa0 fa36_1 rfl) fun a F => F.ld m3 flat29 rfl rfl fun a F => F.mv rfl fun a F => F.vl (x_ixa rfl rfl (m_ixs i Try.underlying117 el29.size rfl (by omega))) fun a F => F.vl (x_load rfl (m_load flat3 (hrow2 _ hB))) fun a F => F.vl (x_imax rfl rfl) fun a F => F.sg rfl fun a F => ?_
    refine s_end (K12 _ _ ?_)
    refine wp_region_lit ?_
    refine F.vl (x_fa0 fa36_1 rfl) fun a F => F.ld mg flat29 rfl rfl fun a F => F.vl (x_move (v := .int .i64 (max (gt A i) (gt B i))) rfl) fun a F => ?_
    refine s_litG [.int .i64 (max (gt A i) (gt B i))] el29 F (by decide) rfl (by simp [Value.cells]) rfl (by decide) (by decide) fun w12 bl a ebl ml B13 zbl F => ?_
    have sB13 := B13.size
    have hB := bt hB B13
    have m2 := m2.old B13
    have m3 := m3.old B13
    have m4 := m4.old B13
    have mg := mg.old B13
    have hO := own_below hO B13
    have ml : Blk w12 bl 3 [.int .i64 (max (gt A i) (gt B i))] := by simpa [Value.cells] using ml
    refine s_app1 (o := o2) el29 F (by decide) rfl rfl hO ml rfl (by simp [Value.oneCell']) hat (by omega) (by omega) (by decide) (by omega) fun v3 w14 a o3 hOn hOatn how hsrc k15 hkeep F => ?_
    have sk15 := k15.size
    have hB := k15.under hB (by omega)
    have m2 := m2.k2 k15 (by omega)
    have m3 := m3.k2 k15 (by omega)
    have m4 := m4.k2 k15 (by omega)
    have mg := (hkeep _ mg.lt hne).trans mg
    have hO := hOn
    have hO_at := hOatn
    have hneg : v3.ownBlock ≠ some b5 := fun h => by rcases hsrc b5 h with h | h; exact hne h; omega
    refine F.vl (x_fa0 fa36_1 rfl) fun a F => ?_
    refine s_put F rfl rfl flat29 mg (by simp) (Rd.own hO).one fun w16 mg o17 => ?_
    have so17 := o17.size
    have hB := hB.trans (o17.below (by omega))
    have m2 := m2.only o17 (by omega)
    have m3 := m3.only o17 (by omega)
    have m4 := m4.only o17 (by omega)
    have hO := own_only hO o17 (hneg)
    refine s_end (K7 _ _ ?_)
    refine wp_region_lit ?_
    refine F.vl (x_addn (i + 1) (by omega) (by omega) rfl rfl) fun a F => F.mv rfl fun a F => ?_
    have hL2 : ((List.range (i + 1)).map fun i => max (gt A i) (gt B i)) = L ++ [max (gt A i) (gt B i)] := by rw [hL, List.range_succ, List.map_append]; rfl
    refine s_end (hK' _ _ (by omega) ⟨v3, o3, ⟨mg, by rw [hL2, ints_app]; simpa using hO, hO_at, hneg, by omega⟩, by omega, m2, m3, m4, hB, F.sub _ rfl⟩)
   ·
    skip
    refine wp_skip (K12 _ _ ?_)
    refine wp_region_lit ?_
    refine F.vl (x_fa0 fa36_1 rfl) fun a F => F.ld mg flat29 rfl rfl fun a F => F.vl (x_move (v := .int .i64 (max (gt A i) (gt B i))) (by rw [show max (gt A i) (gt B i) = gt A i by rw [gt_ge (L := B) (by omega)]; omega]; rfl)) fun a F => ?_
    refine s_litG [.int .i64 (max (gt A i) (gt B i))] el29 F (by decide) rfl (by simp [Value.cells]) rfl (by decide) (by decide) fun w18 bl a ebl ml B19 zbl F => ?_
    have sB19 := B19.size
    have hB := bt hB B19
    have m2 := m2.old B19
    have m3 := m3.old B19
    have m4 := m4.old B19
    have mg := mg.old B19
    have hO := own_below hO B19
    have ml : Blk w18 bl 3 [.int .i64 (max (gt A i) (gt B i))] := by simpa [Value.cells] using ml
    refine s_app1 (o := o2) el29 F (by decide) rfl rfl hO ml rfl (by simp [Value.oneCell']) hat (by omega) (by omega) (by decide) (by omega) fun v3 w20 a o3 hOn hOatn how hsrc k21 hkeep F => ?_
    have sk21 := k21.size
    have hB := k21.under hB (by omega)
    have m2 := m2.k2 k21 (by omega)
    have m3 := m3.k2 k21 (by omega)
    have m4 := m4.k2 k21 (by omega)
    have mg := (hkeep _ mg.lt hne).trans mg
    have hO := hOn
    have hO_at := hOatn
    have hneg : v3.ownBlock ≠ some b5 := fun h => by rcases hsrc b5 h with h | h; exact hne h; omega
    refine F.vl (x_fa0 fa36_1 rfl) fun a F => ?_
    refine s_put F rfl rfl flat29 mg (by simp) (Rd.own hO).one fun w22 mg o23 => ?_
    have so23 := o23.size
    have hB := hB.trans (o23.below (by omega))
    have m2 := m2.only o23 (by omega)
    have m3 := m3.only o23 (by omega)
    have m4 := m4.only o23 (by omega)
    have hO := own_only hO o23 (hneg)
    refine s_end (K7 _ _ ?_)
    refine wp_region_lit ?_
    refine F.vl (x_addn (i + 1) (by omega) (by omega) rfl rfl) fun a F => F.mv rfl fun a F => ?_
    have hL2 : ((List.range (i + 1)).map fun i => max (gt A i) (gt B i)) = L ++ [max (gt A i) (gt B i)] := by rw [hL, List.range_succ, List.map_append]; rfl
    refine s_end (hK' _ _ (by omega) ⟨v3, o3, ⟨mg, by rw [hL2, ints_app]; simpa using hO, hO_at, hneg, by omega⟩, by omega, m2, m3, m4, hB, F.sub _ rfl⟩)
  ·
   skip
   refine wp_skip (K10 _ _ ?_)
   refine wp_seq_k fun _ K14 => ?_
   refine wp_rs fun _ K15 => F.mv rfl fun a F => F.vl (x_fa0 fa36_1 rfl) fun a F => F.ld m3 flat29 rfl rfl fun a F => F.vl (x_len Try.underlying117 rfl) fun a F => F.vl (x_lss (b := decide (i < B.length)) (decide_eq_decide.2 (by omega)) rfl rfl) fun a F => ?_
   refine s_end (K15 _ _ ?_)
   refine wp_iff F rfl (fun hc38 => ?_) (fun hc38 => ?_)
   ·
    obtain ⟨b7, off7, c7, hve, hrow2⟩ := rd_rowI hV (i := i) (by omega)
    cases hve
    refine wp_region_lit ?_
    refine F.mv rfl fun a F => F.vl (x_fa0 fa36_1 rfl) fun a F => F.ld m3 flat29 rfl rfl fun a F => F.mv rfl fun a F => F.vl (x_ixa rfl rfl (m_ixs i Try.underlying117 el29.size rfl (by omega))) fun a F => F.vl (x_load rfl (m_load flat3 (hrow2 _ hB))) fun a F => F.vl (x_imax rfl rfl) fun a F => F.sg rfl fun a F => ?_
    refine s_end (K14 _ _ ?_)
    refine wp_region_lit ?_
    refine F.vl (x_fa0 fa36_1 rfl) fun a F => F.ld mg flat29 rfl rfl fun a F => F.vl (x_move (v := .int .i64 (max (gt A i) (gt B i))) (by rw [show max (gt A i) (gt B i) = max (-1) (gt B i) by rw [gt_ge (L := A) (by omega)]]; rfl)) fun a F => ?_
    refine s_litG [.int .i64 (max (gt A i) (gt B i))] el29 F (by decide) rfl (by simp [Value.cells]) rfl (by decide) (by decide) fun w24 bl a ebl ml B25 zbl F => ?_
    have sB25 := B25.size
    have hB := bt hB B25
    have m2 := m2.old B25
    have m3 := m3.old B25
    have m4 := m4.old B25
    have mg := mg.old B25
    have hO := own_below hO B25
    have ml : Blk w24 bl 3 [.int .i64 (max (gt A i) (gt B i))] := by simpa [Value.cells] using ml
    refine s_app1 (o := o2) el29 F (by decide) rfl rfl hO ml rfl (by simp [Value.oneCell']) hat (by omega) (by omega) (by decide) (by omega) fun v3 w26 a o3 hOn hOatn how hsrc k27 hkeep F => ?_
    have sk27 := k27.size
    have hB := k27.under hB (by omega)
    have m2 := m2.k2 k27 (by omega)
    have m3 := m3.k2 k27 (by omega)
    have m4 := m4.k2 k27 (by omega)
    have mg := (hkeep _ mg.lt hne).trans mg
    have hO := hOn
    have hO_at := hOatn
    have hneg : v3.ownBlock ≠ some b5 := fun h => by rcases hsrc b5 h with h | h; exact hne h; omega
    refine F.vl (x_fa0 fa36_1 rfl) fun a F => ?_
    refine s_put F rfl rfl flat29 mg (by simp) (Rd.own hO).one fun w28 mg o29 => ?_
    have so29 := o29.size
    have hB := hB.trans (o29.below (by omega))
    have m2 := m2.only o29 (by omega)
    have m3 := m3.only o29 (by omega)
    have m4 := m4.only o29 (by omega)
    have hO := own_only hO o29 (hneg)
    refine s_end (K7 _ _ ?_)
    refine wp_region_lit ?_
    refine F.vl (x_addn (i + 1) (by omega) (by omega) rfl rfl) fun a F => F.mv rfl fun a F => ?_
    have hL2 : ((List.range (i + 1)).map fun i => max (gt A i) (gt B i)) = L ++ [max (gt A i) (gt B i)] := by rw [hL, List.range_succ, List.map_append]; rfl
    refine s_end (hK' _ _ (by omega) ⟨v3, o3, ⟨mg, by rw [hL2, ints_app]; simpa using hO, hO_at, hneg, by omega⟩, by omega, m2, m3, m4, hB, F.sub _ rfl⟩)
   ·
    omega
 ·
  have hiN : i = N := by omega
  have hfin : L = bothK A B := by rw [hL, hiN, hN, bothK]
  refine wp_exit (K3 _ _ ?_)
  refine wp_rs fun _ K16 => F.vl (x_ldW wide36 mg rfl rfl) fun a F => ?_
  refine s_callR (R := fun u w' => ∃ v', u = .agg [.int .i64 (setl (max c d) (tidyK L)), v'].toArray ∧ Rd w' v' 1 (tidyK L).length (ints (tidyK L)) ∧ v'.ownBlock = (Value.slice ag L.length cg).ownBlock) [_] F E167 rfl (by decide) (tidy61 (max c d) L _ w (by omega) (by omega) (Rd.own hO)) ?_
  rintro _ w30 a ⟨v5, rfl, hv5, hob⟩ B31 F
  have sB31 := B31.size
  have hB := bt hB B31
  have m4 := m4.old B31
  have hO := own_below hO B31
  have h1v := hv5.one
  refine s_putW F rfl rfl (size_wide wide36) m4 rfl (one2 h1v) fun w32 m4 o33 => ?_
  have so33 := o33.size
  have hB := hB.trans (o33.below (by omega))
  have hO := own_only hO o33 (fun e => by have := hat _ e; omega)
  have hv5 := rd_only hv5 o33 (fun h => by have := hat _ (hob.symm.trans h); omega)
  refine s_end (K16 _ _ ?_)
  rw [hfin] at m4 hv5
  refine wp_ret (res_cell F rfl rfl m4 wide36 ⟨_, rfl, ⟨v5, rfl, hv5, fun j h => (hO.lt j (hob.symm.trans h)).1⟩, hB⟩)
theorem plus42 (c : Int) (A : List Int) (u : Value) (m : Int) (w0 : World) (hc : 0 ≤ c) (hc1 : c ≤ 1099511627776) (hm : 0 ≤ m) (hm1 : m ≤ 1099511627776) (hA0 : A.length ≤ 100000) (hLA : Lo A) (hHA : ∀ j, gt A j ≤ 1099511627776) (hU : Rd w0 u 1 A.length (ints A)) : Calls Try.prog 154 #[.agg [.int .i64 c, u].toArray, .int .i64 m] w0 fun e w' => ∃ z, e = .returned z ∧ (∃ v', z = .agg [.int .i64 (setl (plusC c A m) (tidyK (plusK A m))), v'].toArray ∧ Rd w' v' 1 (tidyK (plusK A m)).length (ints (tidyK (plusK A m))) ∧ ∀ j, v'.ownBlock = some j → w0.heap.size ≤ j) ∧ Below w0.heap.size w0 w' := by
 obtain ⟨au, cu, rfl, _⟩ := hU.form
 have hB := Below.refl w0.heap.size w0
 have sB := hB.size
 refine calls_fs 48 [(0, .agg [.int .i64 c, .slice au A.length cu].toArray), (1, .int .i64 m)] Try.func154 rfl rfl rfl rfl rfl fun a F => ?_
 refine wp_rs fun _ K1 => ?_
 refine s_box ([.int .i64 c, .slice au A.length cu]) F (by decide) rfl rfl fun w2 b2 a eb2 m2 B3 zb2 F => ?_
 have sB3 := B3.size
 have hB := bt hB B3
 refine s_alloc F (by decide) zero36 fun w4 b4 a eb4 m4 B5 zb4 F => ?_
 have sB5 := B5.size
 have hB := bt hB B5
 have m2 := m2.old B5
 refine s_end (K1 _ _ ?_)
 refine wp_rs fun _ K2 => ?_
 refine s_alloc F (by decide) zero36 fun w6 b5 a eb5 m5 B7 zb5 F => ?_
 have sB7 := B7.size
 have hB := bt hB B7
 have m2 := m2.old B7
 have m4 := m4.old B7
 refine s_end (K2 _ _ ?_)
 refine wp_rs fun _ K3 => F.vl (x_fa0 fa36_0 rfl) fun a F => F.ld m2 flat3 rfl rfl fun a F => F.vl (x_fa0 fa36_0 rfl) fun a F => ?_
 refine s_put F rfl rfl flat3 m5 (by simp) rfl fun w8 m5 o9 => ?_
 have so9 := o9.size
 have hB := hB.trans (o9.below (by omega))
 have m2 := m2.only o9 (by omega)
 have m4 := m4.only o9 (by omega)
 refine s_end (K3 _ _ ?_)
 refine wp_seq_k fun _ K4 => ?_
 rcases (show A.length = 0 ∨ (A.length ≠ 0 ∧ 0 < c) ∨ (A.length ≠ 0 ∧ c ≤ 0) by omega) with hq | hq | hq
 ·
  have hpc : plusC c A m = min (c + m) 1099511627776 := by rw [plusC, if_pos (.inl (List.eq_nil_of_length_eq_zero hq))]; rfl
  refine wp_rs fun _ K6 => F.vl (x_fa0 fa36_1 rfl) fun a F => F.ld m2 flat29 rfl rfl fun a F => F.vl (x_len Try.underlying117 rfl) fun a F => F.vl (eqlT (by omega) rfl rfl) fun a F => F.mv rfl fun a F => s_grdn 15 F rfl rfl (by decide) fun a F => s_grdn 15 F rfl rfl (by decide) fun a F => s_grdn 15 F rfl rfl (by decide) fun a F => F.vl (x_pick (b := true) rfl rfl) fun a F => ?_
  refine s_end (K6 _ _ ?_)
  refine wp_if F rfl ?_
  refine wp_region_lit ?_
  refine F.vl (x_fa0 fa36_0 rfl) fun a F => F.ld m2 flat3 rfl rfl fun a F => F.mv rfl fun a F => F.vl (x_add (by omega) (by omega) rfl rfl) fun a F => F.vl (x_imin rfl rfl) fun a F => F.vl (x_fa0 fa36_0 rfl) fun a F => ?_
  refine s_put F rfl rfl flat3 m5 (by simp) rfl fun w10 m5 o11 => ?_
  have so11 := o11.size
  have hB := hB.trans (o11.below (by omega))
  have m2 := m2.only o11 (by omega)
  have m4 := m4.only o11 (by omega)
  refine s_end (K4 _ _ ?_)
  refine wp_seq_k fun _ K7 => ?_
  obtain ⟨bz, hbz⟩ : ∃ b, b = b5 := ⟨_, rfl⟩
  have hbb : w0.heap.size ≤ b4 ∧ b4 < b5 := ⟨by omega, by omega⟩
  refine wp_rs fun _ K8 => F.vl (x_fa0 fa36_1 rfl) fun a F => F.ld m2 flat29 rfl rfl fun a F => F.vl (x_len Try.underlying117 rfl) fun a F => F.mv rfl fun a F => ?_
  refine s_end (K8 _ _ ?_)
  refine wp_block ?_
  refine wp_up A.length (fun i a w => ∃ v' o', FA 156 w0.heap.size w b5 o' v' (plusC c A m) (plusK (A.take i) m) ∧ (o' = b5 ∨ bz < o') ∧ Blk w b4 156 [.int .i64 0, .slice none 0 0] ∧ Below w0.heap.size w0 w ∧ Fs 48 a [(29, .int .i64 (i : Int)), (28, .int .i64 (A.length : Int)), (27, .slice au A.length cu), (1, .int .i64 m), (4, .pointer (some ⟨b4, 0, none⟩)), (5, .pointer (some ⟨b5, 0, none⟩))]) ⟨_, b5, FA.start (by rw [hpc]; exact m5) (by omega), .inl rfl, m4, hB, F.sub _ rfl⟩ ?_
  clear F hB m4 m5
  rintro i a w hi ⟨vv, o2, hA, ho2, m4, hB, F⟩ K' hK'
  have sB := hB.size
  obtain ⟨L, hL⟩ : ∃ L, L = plusK (A.take i) m := ⟨_, rfl⟩
  rw [← hL] at hA
  have hLl : L.length = i := by rw [hL]; simp [plusK]; omega
  have mg := hA.blk
  have hO := hA.own
  have hat := hA.at'
  have hne := hA.ne
  have hlo := hA.lo
  have hgl := mg.lt
  obtain ⟨ag, cg, rfl, hcg⟩ := hA.form
  refine wp_rs fun _ K9 => F.vl (x_lss rfl rfl rfl) fun a F => ?_
  refine s_end (K9 _ _ ?_)
  refine wp_seq_k fun _ K10 => ?_
  refine wp_iff F rfl (fun hc30 => ?_) (fun hc30 => ?_)
  ·
   have hLAi := hLA.gt i
   have hHAi := hHA i
   obtain ⟨b6, off6, c6, hve, hrow1⟩ := rd_rowI hU (i := i) (by omega)
   cases hve
   refine wp_skip (K10 _ _ ?_)
   refine wp_seq_k fun _ K11 => ?_
   refine wp_block ?_
   refine wp_rs fun _ K12 => F.vl (x_ixa rfl rfl (m_ixs i Try.underlying117 el29.size rfl (by omega))) fun a F => F.vl (x_load rfl (m_load flat3 (hrow1 _ hB))) fun a F => F.sg rfl fun a F => ?_
   refine s_end (K12 _ _ ?_)
   refine wp_seq_k fun _ K13 => ?_
   refine wp_rs fun _ K14 => F.mv rfl fun a F => F.vl (x_geq rfl rfl rfl) fun a F => ?_
   refine s_end (K14 _ _ ?_)
   refine wp_iff F rfl (fun hc34 => ?_) (fun hc34 => ?_)
   ·
    skip
    refine wp_region_lit ?_
    refine F.mv rfl fun a F => F.mv rfl fun a F => F.vl (x_add (by omega) (by omega) rfl rfl) fun a F => F.vl (x_imin rfl rfl) fun a F => F.sg rfl fun a F => ?_
    refine s_end (K13 _ _ ?_)
    refine wp_region_lit ?_
    refine F.vl (x_fa0 fa36_1 rfl) fun a F => F.ld mg flat29 rfl rfl fun a F => F.vl (x_move (v := .int .i64 (if 0 ≤ gt A i then cut (gt A i + m) else gt A i)) (by rw [if_pos hc34]; rfl)) fun a F => ?_
    refine s_litG [.int .i64 ((if 0 ≤ gt A i then cut (gt A i + m) else gt A i))] el29 F (by decide) rfl (by simp [Value.cells]) rfl (by decide) (by decide) fun w12 bl a ebl ml B13 zbl F => ?_
    have sB13 := B13.size
    have hB := bt hB B13
    have m4 := m4.old B13
    have mg := mg.old B13
    have hO := own_below hO B13
    have ml : Blk w12 bl 3 [.int .i64 ((if 0 ≤ gt A i then cut (gt A i + m) else gt A i))] := by simpa [Value.cells] using ml
    refine s_app1 (o := o2) el29 F (by decide) rfl rfl hO ml rfl (by simp [Value.oneCell']) hat (by omega) (by omega) (by decide) (by omega) fun v3 w14 a o3 hOn hOatn how hsrc k15 hkeep F => ?_
    have sk15 := k15.size
    have hB := k15.under hB (by omega)
    have m4 := m4.k2 k15 (by omega)
    have mg := (hkeep _ mg.lt hne).trans mg
    have hO := hOn
    have hO_at := hOatn
    have hneg : v3.ownBlock ≠ some b5 := fun h => by rcases hsrc b5 h with h | h; exact hne h; omega
    refine F.vl (x_fa0 fa36_1 rfl) fun a F => ?_
    refine s_put F rfl rfl flat29 mg (by simp) (Rd.own hO).one fun w16 mg o17 => ?_
    have so17 := o17.size
    have hB := hB.trans (o17.below (by omega))
    have m4 := m4.only o17 (by omega)
    have hO := own_only hO o17 (hneg)
    refine s_end (K11 _ _ ?_)
    refine wp_region_lit ?_
    refine F.vl (x_addn (i + 1) (by omega) (by omega) rfl rfl) fun a F => F.mv rfl fun a F => ?_
    have hL2 : plusK (A.take (i + 1)) m = L ++ [(if 0 ≤ gt A i then cut (gt A i + m) else gt A i)] := by rw [hL, List.take_add_one, List.getElem?_eq_getElem (by omega), gt_lt (by omega)]; simp only [plusK, List.map_append]; rfl
    refine s_end (hK' _ _ (by omega) ⟨v3, o3, ⟨mg, by rw [hL2, ints_app]; simpa using hO, hO_at, hneg, by omega⟩, by omega, m4, hB, F.sub _ rfl⟩)
   ·
    skip
    refine wp_skip (K13 _ _ ?_)
    refine wp_region_lit ?_
    refine F.vl (x_fa0 fa36_1 rfl) fun a F => F.ld mg flat29 rfl rfl fun a F => F.vl (x_move (v := .int .i64 (if 0 ≤ gt A i then cut (gt A i + m) else gt A i)) (by rw [if_neg hc34]; rfl)) fun a F => ?_
    refine s_litG [.int .i64 ((if 0 ≤ gt A i then cut (gt A i + m) else gt A i))] el29 F (by decide) rfl (by simp [Value.cells]) rfl (by decide) (by decide) fun w18 bl a ebl ml B19 zbl F => ?_
    have sB19 := B19.size
    have hB := bt hB B19
    have m4 := m4.old B19
    have mg := mg.old B19
    have hO := own_below hO B19
    have ml : Blk w18 bl 3 [.int .i64 ((if 0 ≤ gt A i then cut (gt A i + m) else gt A i))] := by simpa [Value.cells] using ml
    refine s_app1 (o := o2) el29 F (by decide) rfl rfl hO ml rfl (by simp [Value.oneCell']) hat (by omega) (by omega) (by decide) (by omega) fun v3 w20 a o3 hOn hOatn how hsrc k21 hkeep F => ?_
    have sk21 := k21.size
    have hB := k21.under hB (by omega)
    have m4 := m4.k2 k21 (by omega)
    have mg := (hkeep _ mg.lt hne).trans mg
    have hO := hOn
    have hO_at := hOatn
    have hneg : v3.ownBlock ≠ some b5 := fun h => by rcases hsrc b5 h with h | h; exact hne h; omega
    refine F.vl (x_fa0 fa36_1 rfl) fun a F => ?_
    refine s_put F rfl rfl flat29 mg (by simp) (Rd.own hO).one fun w22 mg o23 => ?_
    have so23 := o23.size
    have hB := hB.trans (o23.below (by omega))
    have m4 := m4.only o23 (by omega)
    have hO := own_only hO o23 (hneg)
    refine s_end (K11 _ _ ?_)
    refine wp_region_lit ?_
    refine F.vl (x_addn (i + 1) (by omega) (by omega) rfl rfl) fun a F => F.mv rfl fun a F => ?_
    have hL2 : plusK (A.take (i + 1)) m = L ++ [(if 0 ≤ gt A i then cut (gt A i + m) else gt A i)] := by rw [hL, List.take_add_one, List.getElem?_eq_getElem (by omega), gt_lt (by omega)]; simp only [plusK, List.map_append]; rfl
    refine s_end (hK' _ _ (by omega) ⟨v3, o3, ⟨mg, by rw [hL2, ints_app]; simpa using hO, hO_at, hneg, by omega⟩, by omega, m4, hB, F.sub _ rfl⟩)
  ·
   have hiN : i = A.length := by omega
   have hfin : L = plusK A m := by rw [hL, hiN, List.take_length]
   refine wp_exit (K7 _ _ ?_)
   refine wp_rs fun _ K15 => F.vl (x_ldW wide36 mg rfl rfl) fun a F => ?_
   refine s_callR (R := fun u w' => ∃ v', u = .agg [.int .i64 (setl (plusC c A m) (tidyK L)), v'].toArray ∧ Rd w' v' 1 (tidyK L).length (ints (tidyK L)) ∧ v'.ownBlock = (Value.slice ag L.length cg).ownBlock) [_] F E167 rfl (by decide) (tidy61 (plusC c A m) L _ w (plusC_nn hc hm) (by omega) (Rd.own hO)) ?_
   rintro _ w24 a ⟨v5, rfl, hv5, hob⟩ B25 F
   have sB25 := B25.size
   have hB := bt hB B25
   have m4 := m4.old B25
   have hO := own_below hO B25
   have h1v := hv5.one
   refine s_putW F rfl rfl (size_wide wide36) m4 rfl (one2 h1v) fun w26 m4 o27 => ?_
   have so27 := o27.size
   have hB := hB.trans (o27.below (by omega))
   have hO := own_only hO o27 (fun e => by have := hat _ e; omega)
   have hv5 := rd_only hv5 o27 (fun h => by have := hat _ (hob.symm.trans h); omega)
   refine s_end (K15 _ _ ?_)
   rw [hfin] at m4 hv5
   refine wp_ret (res_cell F rfl rfl m4 wide36 ⟨_, rfl, ⟨v5, rfl, hv5, fun j h => (hO.lt j (hob.symm.trans h)).1⟩, hB⟩)
 ·
  have hpc : plusC c A m = min (c + m) 1099511627776 := by rw [plusC, if_pos (.inr hq.2)]; rfl
  refine wp_rs fun _ K16 => F.vl (x_fa0 fa36_1 rfl) fun a F => F.ld m2 flat29 rfl rfl fun a F => F.vl (x_len Try.underlying117 rfl) fun a F => F.vl (eqlF (by omega) rfl rfl) fun a F => F.mv rfl fun a F => s_grd 15 F rfl rfl rfl <| F.vl (x_fa0 fa36_0 rfl) fun a F => s_grd 15 F rfl rfl rfl <| F.ld m2 flat3 rfl rfl fun a F => s_grd 15 F rfl rfl rfl <| F.vl (gtrT (by omega) rfl rfl) fun a F => F.vl (x_pick (b := false) rfl rfl) fun a F => ?_
  refine s_end (K16 _ _ ?_)
  refine wp_if F rfl ?_
  refine wp_region_lit ?_
  refine F.vl (x_fa0 fa36_0 rfl) fun a F => F.ld m2 flat3 rfl rfl fun a F => F.mv rfl fun a F => F.vl (x_add (by omega) (by omega) rfl rfl) fun a F => F.vl (x_imin rfl rfl) fun a F => F.vl (x_fa0 fa36_0 rfl) fun a F => ?_
  refine s_put F rfl rfl flat3 m5 (by simp) rfl fun w28 m5 o29 => ?_
  have so29 := o29.size
  have hB := hB.trans (o29.below (by omega))
  have m2 := m2.only o29 (by omega)
  have m4 := m4.only o29 (by omega)
  refine s_end (K4 _ _ ?_)
  refine wp_seq_k fun _ K17 => ?_
  obtain ⟨bz, hbz⟩ : ∃ b, b = b5 := ⟨_, rfl⟩
  have hbb : w0.heap.size ≤ b4 ∧ b4 < b5 := ⟨by omega, by omega⟩
  refine wp_rs fun _ K18 => F.vl (x_fa0 fa36_1 rfl) fun a F => F.ld m2 flat29 rfl rfl fun a F => F.vl (x_len Try.underlying117 rfl) fun a F => F.mv rfl fun a F => ?_
  refine s_end (K18 _ _ ?_)
  refine wp_block ?_
  refine wp_up A.length (fun i a w => ∃ v' o', FA 156 w0.heap.size w b5 o' v' (plusC c A m) (plusK (A.take i) m) ∧ (o' = b5 ∨ bz < o') ∧ Blk w b4 156 [.int .i64 0, .slice none 0 0] ∧ Below w0.heap.size w0 w ∧ Fs 48 a [(29, .int .i64 (i : Int)), (28, .int .i64 (A.length : Int)), (27, .slice au A.length cu), (1, .int .i64 m), (4, .pointer (some ⟨b4, 0, none⟩)), (5, .pointer (some ⟨b5, 0, none⟩))]) ⟨_, b5, FA.start (by rw [hpc]; exact m5) (by omega), .inl rfl, m4, hB, F.sub _ rfl⟩ ?_
  clear F hB m4 m5
  rintro i a w hi ⟨vv, o2, hA, ho2, m4, hB, F⟩ K' hK'
  have sB := hB.size
  obtain ⟨L, hL⟩ : ∃ L, L = plusK (A.take i) m := ⟨_, rfl⟩
  rw [← hL] at hA
  have hLl : L.length = i := by rw [hL]; simp [plusK]; omega
  have mg := hA.blk
  have hO := hA.own
  have hat := hA.at'
  have hne := hA.ne
  have hlo := hA.lo
  have hgl := mg.lt
  obtain ⟨ag, cg, rfl, hcg⟩ := hA.form
  refine wp_rs fun _ K19 => F.vl (x_lss rfl rfl rfl) fun a F => ?_
  refine s_end (K19 _ _ ?_)
  refine wp_seq_k fun _ K20 => ?_
  refine wp_iff F rfl (fun hc30 => ?_) (fun hc30 => ?_)
  ·
   have hLAi := hLA.gt i
   have hHAi := hHA i
   obtain ⟨b6, off6, c6, hve, hrow1⟩ := rd_rowI hU (i := i) (by omega)
   cases hve
   refine wp_skip (K20 _ _ ?_)
   refine wp_seq_k fun _ K21 => ?_
   refine wp_block ?_
   refine wp_rs fun _ K22 => F.vl (x_ixa rfl rfl (m_ixs i Try.underlying117 el29.size rfl (by omega))) fun a F => F.vl (x_load rfl (m_load flat3 (hrow1 _ hB))) fun a F => F.sg rfl fun a F => ?_
   refine s_end (K22 _ _ ?_)
   refine wp_seq_k fun _ K23 => ?_
   refine wp_rs fun _ K24 => F.mv rfl fun a F => F.vl (x_geq rfl rfl rfl) fun a F => ?_
   refine s_end (K24 _ _ ?_)
   refine wp_iff F rfl (fun hc34 => ?_) (fun hc34 => ?_)
   ·
    skip
    refine wp_region_lit ?_
    refine F.mv rfl fun a F => F.mv rfl fun a F => F.vl (x_add (by omega) (by omega) rfl rfl) fun a F => F.vl (x_imin rfl rfl) fun a F => F.sg rfl fun a F => ?_
    refine s_end (K23 _ _ ?_)
    refine wp_region_lit ?_
    refine F.vl (x_fa0 fa36_1 rfl) fun a F => F.ld mg flat29 rfl rfl fun a F => F.vl (x_move (v := .int .i64 (if 0 ≤ gt A i then cut (gt A i + m) else gt A i)) (by rw [if_pos hc34]; rfl)) fun a F => ?_
    refine s_litG [.int .i64 ((if 0 ≤ gt A i then cut (gt A i + m) else gt A i))] el29 F (by decide) rfl (by simp [Value.cells]) rfl (by decide) (by decide) fun w30 bl a ebl ml B31 zbl F => ?_
    have sB31 := B31.size
    have hB := bt hB B31
    have m4 := m4.old B31
    have mg := mg.old B31
    have hO := own_below hO B31
    have ml : Blk w30 bl 3 [.int .i64 ((if 0 ≤ gt A i then cut (gt A i + m) else gt A i))] := by simpa [Value.cells] using ml
    refine s_app1 (o := o2) el29 F (by decide) rfl rfl hO ml rfl (by simp [Value.oneCell']) hat (by omega) (by omega) (by decide) (by omega) fun v3 w32 a o3 hOn hOatn how hsrc k33 hkeep F => ?_
    have sk33 := k33.size
    have hB := k33.under hB (by omega)
    have m4 := m4.k2 k33 (by omega)
    have mg := (hkeep _ mg.lt hne).trans mg
    have hO := hOn
    have hO_at := hOatn
    have hneg : v3.ownBlock ≠ some b5 := fun h => by rcases hsrc b5 h with h | h; exact hne h; omega
    refine F.vl (x_fa0 fa36_1 rfl) fun a F => ?_
    refine s_put F rfl rfl flat29 mg (by simp) (Rd.own hO).one fun w34 mg o35 => ?_
    have so35 := o35.size
    have hB := hB.trans (o35.below (by omega))
    have m4 := m4.only o35 (by omega)
    have hO := own_only hO o35 (hneg)
    refine s_end (K21 _ _ ?_)
    refine wp_region_lit ?_
    refine F.vl (x_addn (i + 1) (by omega) (by omega) rfl rfl) fun a F => F.mv rfl fun a F => ?_
    have hL2 : plusK (A.take (i + 1)) m = L ++ [(if 0 ≤ gt A i then cut (gt A i + m) else gt A i)] := by rw [hL, List.take_add_one, List.getElem?_eq_getElem (by omega), gt_lt (by omega)]; simp only [plusK, List.map_append]; rfl
    refine s_end (hK' _ _ (by omega) ⟨v3, o3, ⟨mg, by rw [hL2, ints_app]; simpa using hO, hO_at, hneg, by omega⟩, by omega, m4, hB, F.sub _ rfl⟩)
   ·
    skip
    refine wp_skip (K23 _ _ ?_)
    refine wp_region_lit ?_
    refine F.vl (x_fa0 fa36_1 rfl) fun a F => F.ld mg flat29 rfl rfl fun a F => F.vl (x_move (v := .int .i64 (if 0 ≤ gt A i then cut (gt A i + m) else gt A i)) (by rw [if_neg hc34]; rfl)) fun a F => ?_
    refine s_litG [.int .i64 ((if 0 ≤ gt A i then cut (gt A i + m) else gt A i))] el29 F (by decide) rfl (by simp [Value.cells]) rfl (by decide) (by decide) fun w36 bl a ebl ml B37 zbl F => ?_
    have sB37 := B37.size
    have hB := bt hB B37
    have m4 := m4.old B37
    have mg := mg.old B37
    have hO := own_below hO B37
    have ml : Blk w36 bl 3 [.int .i64 ((if 0 ≤ gt A i then cut (gt A i + m) else gt A i))] := by simpa [Value.cells] using ml
    refine s_app1 (o := o2) el29 F (by decide) rfl rfl hO ml rfl (by simp [Value.oneCell']) hat (by omega) (by omega) (by decide) (by omega) fun v3 w38 a o3 hOn hOatn how hsrc k39 hkeep F => ?_
    have sk39 := k39.size
    have hB := k39.under hB (by omega)
    have m4 := m4.k2 k39 (by omega)
    have mg := (hkeep _ mg.lt hne).trans mg
    have hO := hOn
    have hO_at := hOatn
    have hneg : v3.ownBlock ≠ some b5 := fun h => by rcases hsrc b5 h with h | h; exact hne h; omega
    refine F.vl (x_fa0 fa36_1 rfl) fun a F => ?_
    refine s_put F rfl rfl flat29 mg (by simp) (Rd.own hO).one fun w40 mg o41 => ?_
    have so41 := o41.size
    have hB := hB.trans (o41.below (by omega))
    have m4 := m4.only o41 (by omega)
    have hO := own_only hO o41 (hneg)
    refine s_end (K21 _ _ ?_)
    refine wp_region_lit ?_
    refine F.vl (x_addn (i + 1) (by omega) (by omega) rfl rfl) fun a F => F.mv rfl fun a F => ?_
    have hL2 : plusK (A.take (i + 1)) m = L ++ [(if 0 ≤ gt A i then cut (gt A i + m) else gt A i)] := by rw [hL, List.take_add_one, List.getElem?_eq_getElem (by omega), gt_lt (by omega)]; simp only [plusK, List.map_append]; rfl
    refine s_end (hK' _ _ (by omega) ⟨v3, o3, ⟨mg, by rw [hL2, ints_app]; simpa using hO, hO_at, hneg, by omega⟩, by omega, m4, hB, F.sub _ rfl⟩)
  ·
   have hiN : i = A.length := by omega
   have hfin : L = plusK A m := by rw [hL, hiN, List.take_length]
   refine wp_exit (K17 _ _ ?_)
   refine wp_rs fun _ K25 => F.vl (x_ldW wide36 mg rfl rfl) fun a F => ?_
   refine s_callR (R := fun u w' => ∃ v', u = .agg [.int .i64 (setl (plusC c A m) (tidyK L)), v'].toArray ∧ Rd w' v' 1 (tidyK L).length (ints (tidyK L)) ∧ v'.ownBlock = (Value.slice ag L.length cg).ownBlock) [_] F E167 rfl (by decide) (tidy61 (plusC c A m) L _ w (plusC_nn hc hm) (by omega) (Rd.own hO)) ?_
   rintro _ w42 a ⟨v5, rfl, hv5, hob⟩ B43 F
   have sB43 := B43.size
   have hB := bt hB B43
   have m4 := m4.old B43
   have hO := own_below hO B43
   have h1v := hv5.one
   refine s_putW F rfl rfl (size_wide wide36) m4 rfl (one2 h1v) fun w44 m4 o45 => ?_
   have so45 := o45.size
   have hB := hB.trans (o45.below (by omega))
   have hO := own_only hO o45 (fun e => by have := hat _ e; omega)
   have hv5 := rd_only hv5 o45 (fun h => by have := hat _ (hob.symm.trans h); omega)
   refine s_end (K25 _ _ ?_)
   rw [hfin] at m4 hv5
   refine wp_ret (res_cell F rfl rfl m4 wide36 ⟨_, rfl, ⟨v5, rfl, hv5, fun j h => (hO.lt j (hob.symm.trans h)).1⟩, hB⟩)
 ·
  have hpc : plusC c A m = c := by rw [plusC, if_neg]; rintro (h | h); exact hq.1 (by rw [h]; rfl); omega
  refine wp_rs fun _ K26 => F.vl (x_fa0 fa36_1 rfl) fun a F => F.ld m2 flat29 rfl rfl fun a F => F.vl (x_len Try.underlying117 rfl) fun a F => F.vl (eqlF (by omega) rfl rfl) fun a F => F.mv rfl fun a F => s_grd 15 F rfl rfl rfl <| F.vl (x_fa0 fa36_0 rfl) fun a F => s_grd 15 F rfl rfl rfl <| F.ld m2 flat3 rfl rfl fun a F => s_grd 15 F rfl rfl rfl <| F.vl (gtrF (by omega) rfl rfl) fun a F => F.vl (x_pick (b := false) rfl rfl) fun a F => ?_
  refine s_end (K26 _ _ ?_)
  refine wp_if F rfl ?_
  refine wp_skip (K4 _ _ ?_)
  refine wp_seq_k fun _ K27 => ?_
  obtain ⟨bz, hbz⟩ : ∃ b, b = b5 := ⟨_, rfl⟩
  have hbb : w0.heap.size ≤ b4 ∧ b4 < b5 := ⟨by omega, by omega⟩
  refine wp_rs fun _ K28 => F.vl (x_fa0 fa36_1 rfl) fun a F => F.ld m2 flat29 rfl rfl fun a F => F.vl (x_len Try.underlying117 rfl) fun a F => F.mv rfl fun a F => ?_
  refine s_end (K28 _ _ ?_)
  refine wp_block ?_
  refine wp_up A.length (fun i a w => ∃ v' o', FA 156 w0.heap.size w b5 o' v' (plusC c A m) (plusK (A.take i) m) ∧ (o' = b5 ∨ bz < o') ∧ Blk w b4 156 [.int .i64 0, .slice none 0 0] ∧ Below w0.heap.size w0 w ∧ Fs 48 a [(29, .int .i64 (i : Int)), (28, .int .i64 (A.length : Int)), (27, .slice au A.length cu), (1, .int .i64 m), (4, .pointer (some ⟨b4, 0, none⟩)), (5, .pointer (some ⟨b5, 0, none⟩))]) ⟨_, b5, FA.start (by rw [hpc]; exact m5) (by omega), .inl rfl, m4, hB, F.sub _ rfl⟩ ?_
  clear F hB m4 m5
  rintro i a w hi ⟨vv, o2, hA, ho2, m4, hB, F⟩ K' hK'
  have sB := hB.size
  obtain ⟨L, hL⟩ : ∃ L, L = plusK (A.take i) m := ⟨_, rfl⟩
  rw [← hL] at hA
  have hLl : L.length = i := by rw [hL]; simp [plusK]; omega
  have mg := hA.blk
  have hO := hA.own
  have hat := hA.at'
  have hne := hA.ne
  have hlo := hA.lo
  have hgl := mg.lt
  obtain ⟨ag, cg, rfl, hcg⟩ := hA.form
  refine wp_rs fun _ K29 => F.vl (x_lss rfl rfl rfl) fun a F => ?_
  refine s_end (K29 _ _ ?_)
  refine wp_seq_k fun _ K30 => ?_
  refine wp_iff F rfl (fun hc30 => ?_) (fun hc30 => ?_)
  ·
   have hLAi := hLA.gt i
   have hHAi := hHA i
   obtain ⟨b6, off6, c6, hve, hrow1⟩ := rd_rowI hU (i := i) (by omega)
   cases hve
   refine wp_skip (K30 _ _ ?_)
   refine wp_seq_k fun _ K31 => ?_
   refine wp_block ?_
   refine wp_rs fun _ K32 => F.vl (x_ixa rfl rfl (m_ixs i Try.underlying117 el29.size rfl (by omega))) fun a F => F.vl (x_load rfl (m_load flat3 (hrow1 _ hB))) fun a F => F.sg rfl fun a F => ?_
   refine s_end (K32 _ _ ?_)
   refine wp_seq_k fun _ K33 => ?_
   refine wp_rs fun _ K34 => F.mv rfl fun a F => F.vl (x_geq rfl rfl rfl) fun a F => ?_
   refine s_end (K34 _ _ ?_)
   refine wp_iff F rfl (fun hc34 => ?_) (fun hc34 => ?_)
   ·
    skip
    refine wp_region_lit ?_
    refine F.mv rfl fun a F => F.mv rfl fun a F => F.vl (x_add (by omega) (by omega) rfl rfl) fun a F => F.vl (x_imin rfl rfl) fun a F => F.sg rfl fun a F => ?_
    refine s_end (K33 _ _ ?_)
    refine wp_region_lit ?_
    refine F.vl (x_fa0 fa36_1 rfl) fun a F => F.ld mg flat29 rfl rfl fun a F => F.vl (x_move (v := .int .i64 (if 0 ≤ gt A i then cut (gt A i + m) else gt A i)) (by rw [if_pos hc34]; rfl)) fun a F => ?_
    refine s_litG [.int .i64 ((if 0 ≤ gt A i then cut (gt A i + m) else gt A i))] el29 F (by decide) rfl (by simp [Value.cells]) rfl (by decide) (by decide) fun w46 bl a ebl ml B47 zbl F => ?_
    have sB47 := B47.size
    have hB := bt hB B47
    have m4 := m4.old B47
    have mg := mg.old B47
    have hO := own_below hO B47
    have ml : Blk w46 bl 3 [.int .i64 ((if 0 ≤ gt A i then cut (gt A i + m) else gt A i))] := by simpa [Value.cells] using ml
    refine s_app1 (o := o2) el29 F (by decide) rfl rfl hO ml rfl (by simp [Value.oneCell']) hat (by omega) (by omega) (by decide) (by omega) fun v3 w48 a o3 hOn hOatn how hsrc k49 hkeep F => ?_
    have sk49 := k49.size
    have hB := k49.under hB (by omega)
    have m4 := m4.k2 k49 (by omega)
    have mg := (hkeep _ mg.lt hne).trans mg
    have hO := hOn
    have hO_at := hOatn
    have hneg : v3.ownBlock ≠ some b5 := fun h => by rcases hsrc b5 h with h | h; exact hne h; omega
    refine F.vl (x_fa0 fa36_1 rfl) fun a F => ?_
    refine s_put F rfl rfl flat29 mg (by simp) (Rd.own hO).one fun w50 mg o51 => ?_
    have so51 := o51.size
    have hB := hB.trans (o51.below (by omega))
    have m4 := m4.only o51 (by omega)
    have hO := own_only hO o51 (hneg)
    refine s_end (K31 _ _ ?_)
    refine wp_region_lit ?_
    refine F.vl (x_addn (i + 1) (by omega) (by omega) rfl rfl) fun a F => F.mv rfl fun a F => ?_
    have hL2 : plusK (A.take (i + 1)) m = L ++ [(if 0 ≤ gt A i then cut (gt A i + m) else gt A i)] := by rw [hL, List.take_add_one, List.getElem?_eq_getElem (by omega), gt_lt (by omega)]; simp only [plusK, List.map_append]; rfl
    refine s_end (hK' _ _ (by omega) ⟨v3, o3, ⟨mg, by rw [hL2, ints_app]; simpa using hO, hO_at, hneg, by omega⟩, by omega, m4, hB, F.sub _ rfl⟩)
   ·
    skip
    refine wp_skip (K33 _ _ ?_)
    refine wp_region_lit ?_
    refine F.vl (x_fa0 fa36_1 rfl) fun a F => F.ld mg flat29 rfl rfl fun a F => F.vl (x_move (v := .int .i64 (if 0 ≤ gt A i then cut (gt A i + m) else gt A i)) (by rw [if_neg hc34]; rfl)) fun a F => ?_
    refine s_litG [.int .i64 ((if 0 ≤ gt A i then cut (gt A i + m) else gt A i))] el29 F (by decide) rfl (by simp [Value.cells]) rfl (by decide) (by decide) fun w52 bl a ebl ml B53 zbl F => ?_
    have sB53 := B53.size
    have hB := bt hB B53
    have m4 := m4.old B53
    have mg := mg.old B53
    have hO := own_below hO B53
    have ml : Blk w52 bl 3 [.int .i64 ((if 0 ≤ gt A i then cut (gt A i + m) else gt A i))] := by simpa [Value.cells] using ml
    refine s_app1 (o := o2) el29 F (by decide) rfl rfl hO ml rfl (by simp [Value.oneCell']) hat (by omega) (by omega) (by decide) (by omega) fun v3 w54 a o3 hOn hOatn how hsrc k55 hkeep F => ?_
    have sk55 := k55.size
    have hB := k55.under hB (by omega)
    have m4 := m4.k2 k55 (by omega)
    have mg := (hkeep _ mg.lt hne).trans mg
    have hO := hOn
    have hO_at := hOatn
    have hneg : v3.ownBlock ≠ some b5 := fun h => by rcases hsrc b5 h with h | h; exact hne h; omega
    refine F.vl (x_fa0 fa36_1 rfl) fun a F => ?_
    refine s_put F rfl rfl flat29 mg (by simp) (Rd.own hO).one fun w56 mg o57 => ?_
    have so57 := o57.size
    have hB := hB.trans (o57.below (by omega))
    have m4 := m4.only o57 (by omega)
    have hO := own_only hO o57 (hneg)
    refine s_end (K31 _ _ ?_)
    refine wp_region_lit ?_
    refine F.vl (x_addn (i + 1) (by omega) (by omega) rfl rfl) fun a F => F.mv rfl fun a F => ?_
    have hL2 : plusK (A.take (i + 1)) m = L ++ [(if 0 ≤ gt A i then cut (gt A i + m) else gt A i)] := by rw [hL, List.take_add_one, List.getElem?_eq_getElem (by omega), gt_lt (by omega)]; simp only [plusK, List.map_append]; rfl
    refine s_end (hK' _ _ (by omega) ⟨v3, o3, ⟨mg, by rw [hL2, ints_app]; simpa using hO, hO_at, hneg, by omega⟩, by omega, m4, hB, F.sub _ rfl⟩)
  ·
   have hiN : i = A.length := by omega
   have hfin : L = plusK A m := by rw [hL, hiN, List.take_length]
   refine wp_exit (K27 _ _ ?_)
   refine wp_rs fun _ K35 => F.vl (x_ldW wide36 mg rfl rfl) fun a F => ?_
   refine s_callR (R := fun u w' => ∃ v', u = .agg [.int .i64 (setl (plusC c A m) (tidyK L)), v'].toArray ∧ Rd w' v' 1 (tidyK L).length (ints (tidyK L)) ∧ v'.ownBlock = (Value.slice ag L.length cg).ownBlock) [_] F E167 rfl (by decide) (tidy61 (plusC c A m) L _ w (plusC_nn hc hm) (by omega) (Rd.own hO)) ?_
   rintro _ w58 a ⟨v5, rfl, hv5, hob⟩ B59 F
   have sB59 := B59.size
   have hB := bt hB B59
   have m4 := m4.old B59
   have hO := own_below hO B59
   have h1v := hv5.one
   refine s_putW F rfl rfl (size_wide wide36) m4 rfl (one2 h1v) fun w60 m4 o61 => ?_
   have so61 := o61.size
   have hB := hB.trans (o61.below (by omega))
   have hO := own_only hO o61 (fun e => by have := hat _ e; omega)
   have hv5 := rd_only hv5 o61 (fun h => by have := hat _ (hob.symm.trans h); omega)
   refine s_end (K35 _ _ ?_)
   rw [hfin] at m4 hv5
   refine wp_ret (res_cell F rfl rfl m4 wide36 ⟨_, rfl, ⟨v5, rfl, hv5, fun j h => (hO.lt j (hob.symm.trans h)).1⟩, hB⟩)
end Go.Proofs.Ytmkjhdiepkpdoaa

namespace Go.Proofs.Ytmkjhdiepkpdoaa
set_option maxRecDepth 100000
set_option maxHeartbeats 1600000
open Go.RowKit Go.Shelf
set_option linter.unusedVariables false
set_option linter.unusedSimpArgs false
theorem rNorm20 : ∀ (s : SL) (x : C3) (w0 : World), RS w0 s x → s.nums 1099511627776 1001 → Calls Try.prog 152 #[lv x] w0 fun e w' => ∃ z, e = .returned z ∧ (∃ v', z = .agg [.int .i64 (nfC s), v'].toArray ∧ Rd w' v' 1 (nfK s).length (ints (nfK s)) ∧ ∀ j, v'.ownBlock = some j → w0.heap.size ≤ j) ∧ Below w0.heap.size w0 w' := by
 intro s
 induction s with
 | num p =>
  rintro ⟨k, n, vx⟩ w0 hS0 hnm
  have hB := Below.refl w0.heap.size w0
  have sB := hB.size
  obtain ⟨h1, h2, h3⟩ := hS0
  simp only at h1 h2
  subst h1 h2
  obtain ⟨hn1, hn2⟩ := nf_num p hnm
  refine calls_fs 51 [(0, .agg [.int .i64 1, .int .i64 (p : Int), vx].toArray)] Try.func152 rfl rfl rfl rfl rfl fun a F => ?_
  refine wp_rs fun _ K1 => ?_
  refine s_box ([.int .i64 1, .int .i64 (p : Int), vx]) F (by decide) rfl rfl fun w2 b1 a eb1 m1 B3 zb1 F => ?_
  have sB3 := B3.size
  have hB := bt hB B3
  refine s_alloc F (by decide) zero36 fun w4 b2 a eb2 m2 B5 zb2 F => ?_
  have sB5 := B5.size
  have hB := bt hB B5
  have m1 := m1.old B5
  refine s_end (K1 _ _ ?_)
  refine wp_seq_k fun _ K2 => ?_
  refine wp_rs fun _ K3 => F.vl (x_fa0 fa24_0 rfl) fun a F => F.ld m1 flat3 rfl rfl fun a F => ?_
  refine s_end (K3 _ _ ?_)
  refine wp_block ?_
  refine wp_rs fun _ K4 => F.vl (eqlT (by omega) rfl rfl) fun a F => F.sg rfl fun a F => ?_
  refine s_end (K4 _ _ ?_)
  refine wp_if F rfl ?_
  refine wp_rs fun _ K5 => F.vl (x_fa0 fa24_1 rfl) fun a F => F.ld m1 flat3 rfl rfl fun a F => F.vl (x_build (vs := [(0, _)]) rfl (b36_0 _ _)) fun a F => ?_
  refine s_putW F rfl rfl (size_wide wide36) m2 rfl (one2 rfl) fun w6 m2 o7 => ?_
  have so7 := o7.size
  have hB := hB.trans (o7.below (by omega))
  refine s_end (K5 _ _ ?_)
  refine wp_ret (inb_ret (then_ret (res_cell F rfl rfl m2 wide36 ⟨_, rfl, ⟨_, by rw [hn1], by rw [hn2]; exact Rd.nil _ _, fun j h => by cases h⟩, hB⟩)))
 | var p =>
  rintro ⟨k, n, vx⟩ w0 hS0 hnm
  have hB := Below.refl w0.heap.size w0
  have sB := hB.size
  obtain ⟨h1, h2, h3⟩ := hS0
  simp only at h1 h2
  subst h1 h2
  have hp : p < 1001 := hnm
  obtain ⟨hn1, hn2⟩ := nf_var p
  refine calls_fs 51 [(0, .agg [.int .i64 2, .int .i64 (p : Int), vx].toArray)] Try.func152 rfl rfl rfl rfl rfl fun a F => ?_
  refine wp_rs fun _ K1 => ?_
  refine s_box ([.int .i64 2, .int .i64 (p : Int), vx]) F (by decide) rfl rfl fun w2 b1 a eb1 m1 B3 zb1 F => ?_
  have sB3 := B3.size
  have hB := bt hB B3
  refine s_alloc F (by decide) zero36 fun w4 b2 a eb2 m2 B5 zb2 F => ?_
  have sB5 := B5.size
  have hB := bt hB B5
  have m1 := m1.old B5
  refine s_end (K1 _ _ ?_)
  refine wp_seq_k fun _ K2 => ?_
  refine wp_rs fun _ K3 => F.vl (x_fa0 fa24_0 rfl) fun a F => F.ld m1 flat3 rfl rfl fun a F => ?_
  refine s_end (K3 _ _ ?_)
  refine wp_block ?_
  refine wp_rs fun _ K4 => F.vl (eqlF (by omega) rfl rfl) fun a F => F.sg rfl fun a F => ?_
  refine s_end (K4 _ _ ?_)
  refine wp_if F rfl ?_
  refine wp_rs fun _ K5 => F.vl (eqlT (by omega) rfl rfl) fun a F => F.sg rfl fun a F => ?_
  refine s_end (K5 _ _ ?_)
  refine wp_if F rfl ?_
  refine wp_rs fun _ K6 => F.vl (x_build (vs := []) rfl (b36_ _)) fun a F => ?_
  refine s_alloc F (by decide) zero36 fun w6 b3 a eb3 m3 B7 zb3 F => ?_
  have sB7 := B7.size
  have hB := bt hB B7
  have m1 := m1.old B7
  have m2 := m2.old B7
  refine s_putW F rfl rfl (size_wide wide36) m3 rfl (one2 rfl) fun w8 m3 o9 => ?_
  have so9 := o9.size
  have hB := hB.trans (o9.below (by omega))
  have m1 := m1.only o9 (by omega)
  have m2 := m2.only o9 (by omega)
  refine s_end (K6 _ _ ?_)
  refine wp_seq_k fun _ K7 => ?_
  obtain ⟨bz, hbz⟩ : ∃ b, b = b3 := ⟨_, rfl⟩
  have hbb : w0.heap.size ≤ b2 ∧ b2 < b3 := ⟨by omega, by omega⟩
  refine wp_rs fun _ K8 => F.vl (x_fa0 fa24_1 rfl) fun a F => F.ld m1 flat3 rfl rfl fun a F => F.mv rfl fun a F => ?_
  refine s_end (K8 _ _ ?_)
  refine wp_block ?_
  refine wp_up p (fun i a w => ∃ v' o', FA 156 w0.heap.size w b3 o' v' 0 (List.replicate i (-1)) ∧ (o' = b3 ∨ bz < o') ∧ Blk w b2 156 [.int .i64 0, .slice none 0 0] ∧ Below w0.heap.size w0 w ∧ Fs 51 a [(16, .int .i64 (i : Int)), (15, .int .i64 (p : Int)), (2, .pointer (some ⟨b2, 0, none⟩)), (3, .pointer (some ⟨b3, 0, none⟩))]) ⟨_, b3, FA.start m3 (by omega), .inl rfl, m2, hB, F.sub _ rfl⟩ ?_
  clear F hB m2 m3
  rintro i a w hi ⟨vv, o2, hA, ho2, m2, hB, F⟩ K' hK'
  have sB := hB.size
  obtain ⟨L, hL⟩ : ∃ L, L = List.replicate i (-1 : Int) := ⟨_, rfl⟩
  rw [← hL] at hA
  have hLl : L.length = i := by rw [hL]; simp
  have mg := hA.blk
  have hO := hA.own
  have hat := hA.at'
  have hne := hA.ne
  have hlo := hA.lo
  have hgl := mg.lt
  obtain ⟨ag, cg, rfl, hcg⟩ := hA.form
  refine wp_rs fun _ K9 => F.vl (x_lss (b := decide (i < p)) (decide_eq_decide.2 (by omega)) rfl rfl) fun a F => ?_
  refine s_end (K9 _ _ ?_)
  refine wp_seq_k fun _ K10 => ?_
  refine wp_iff F rfl (fun hc17 => ?_) (fun hc17 => ?_)
  ·
   refine wp_skip (K10 _ _ ?_)
   refine wp_seq_k fun _ K11 => ?_
   refine wp_block ?_
   refine wp_region_lit ?_
   refine F.vl (x_fa0 fa36_1 rfl) fun a F => F.ld mg flat29 rfl rfl fun a F => ?_
   refine s_litG [.int .i64 (-1)] el29 F (by decide) rfl (by simp [Value.cells]) rfl (by decide) (by decide) fun w10 bl a ebl ml B11 zbl F => ?_
   have sB11 := B11.size
   have hB := bt hB B11
   have m2 := m2.old B11
   have mg := mg.old B11
   have hO := own_below hO B11
   have ml : Blk w10 bl 3 [.int .i64 (-1)] := by simpa [Value.cells] using ml
   refine s_app1 (o := o2) el29 F (by decide) rfl rfl hO ml rfl (by simp [Value.oneCell']) hat (by omega) (by omega) (by decide) (by omega) fun v3 w12 a o3 hOn hOatn how hsrc k13 hkeep F => ?_
   have sk13 := k13.size
   have hB := k13.under hB (by omega)
   have m2 := m2.k2 k13 (by omega)
   have mg := (hkeep _ mg.lt hne).trans mg
   have hO := hOn
   have hO_at := hOatn
   have hneg : v3.ownBlock ≠ some b3 := fun h => by rcases hsrc b3 h with h | h; exact hne h; omega
   refine F.vl (x_fa0 fa36_1 rfl) fun a F => ?_
   refine s_put F rfl rfl flat29 mg (by simp) (Rd.own hO).one fun w14 mg o15 => ?_
   have so15 := o15.size
   have hB := hB.trans (o15.below (by omega))
   have m2 := m2.only o15 (by omega)
   have hO := own_only hO o15 (hneg)
   refine s_end (K11 _ _ ?_)
   refine wp_region_lit ?_
   refine F.vl (x_addn (i + 1) (by omega) (by omega) rfl rfl) fun a F => F.mv rfl fun a F => ?_
   have hL2 : List.replicate (i + 1) (-1 : Int) = L ++ [-1] := by rw [hL, List.replicate_succ']
   refine s_end (hK' _ _ (by omega) ⟨v3, o3, ⟨mg, by rw [hL2, ints_app]; simpa using hO, hO_at, hneg, by omega⟩, by omega, m2, hB, F.sub _ rfl⟩)
  ·
   have hip : i = p := by omega
   refine wp_exit (K7 _ _ ?_)
   refine wp_rs fun _ K12 => F.vl (x_fa0 fa36_1 rfl) fun a F => F.ld mg flat29 rfl rfl fun a F => ?_
   refine s_litG [.int .i64 (0)] el29 F (by decide) rfl (by simp [Value.cells]) rfl (by decide) (by decide) fun w16 bl a ebl ml B17 zbl F => ?_
   have sB17 := B17.size
   have hB := bt hB B17
   have m2 := m2.old B17
   have mg := mg.old B17
   have hO := own_below hO B17
   have ml : Blk w16 bl 3 [.int .i64 (0)] := by simpa [Value.cells] using ml
   refine s_app1 (o := o2) el29 F (by decide) rfl rfl hO ml rfl (by simp [Value.oneCell']) hat (by omega) (by omega) (by decide) (by omega) fun v3 w18 a o3 hOn hOatn how hsrc k19 hkeep F => ?_
   have sk19 := k19.size
   have hB := k19.under hB (by omega)
   have m2 := m2.k2 k19 (by omega)
   have mg := (hkeep _ mg.lt hne).trans mg
   have hO := hOn
   have hO_at := hOatn
   have hneg : v3.ownBlock ≠ some b3 := fun h => by rcases hsrc b3 h with h | h; exact hne h; omega
   refine F.vl (x_fa0 fa36_1 rfl) fun a F => ?_
   refine s_put F rfl rfl flat29 mg (by simp) (Rd.own hO).one fun w20 mg o21 => ?_
   have so21 := o21.size
   have hB := hB.trans (o21.below (by omega))
   have m2 := m2.only o21 (by omega)
   have hO := own_only hO o21 (hneg)
   refine s_end (K12 _ _ ?_)
   refine wp_rs fun _ K13 => F.vl (x_ldW wide36 mg rfl rfl) fun a F => ?_
   refine s_putW F rfl rfl (size_wide wide36) m2 rfl (one2 (Rd.own hO).one) fun w22 m2 o23 => ?_
   have so23 := o23.size
   have hB := hB.trans (o23.below (by omega))
   have hO := own_only hO o23 (fun e => by have := hO_at _ e; omega)
   refine s_end (K13 _ _ ?_)
   have hfin : nfK (.var p) = L ++ [0] := by rw [hn2, hL, hip]
   refine wp_ret (inb_ret (then_ret (res_cell F rfl rfl m2 wide36 ⟨_, rfl, ⟨v3, by rw [hn1]; rfl, by rw [hfin, ints_app]; simpa using Rd.own hO, fun j h => (hO.lt j h).1⟩, hB⟩)))
 | succ p sa iha =>
  rintro ⟨k, n, vx⟩ w0 hS0 hnm
  have hB := Below.refl w0.heap.size w0
  have sB := hB.size
  obtain ⟨h1, h2, y, h3, hy⟩ := hS0
  simp only at h1 h2 h3
  subst h1 h2
  have hp1 := hnm.1
  have hp2 := hnm.2.1
  obtain ⟨b, off, cp, rfl, hrow⟩ := rd_row1 h3
  refine calls_fs 51 [(0, .agg [.int .i64 3, .int .i64 (p : Int), .slice (some ⟨b, off, none⟩) 1 cp].toArray)] Try.func152 rfl rfl rfl rfl rfl fun a F => ?_
  refine wp_rs fun _ K1 => ?_
  refine s_box ([.int .i64 3, .int .i64 (p : Int), .slice (some ⟨b, off, none⟩) 1 cp]) F (by decide) rfl rfl fun w2 b1 a eb1 m1 B3 zb1 F => ?_
  have sB3 := B3.size
  have hB := bt hB B3
  refine s_alloc F (by decide) zero36 fun w4 b2 a eb2 m2 B5 zb2 F => ?_
  have sB5 := B5.size
  have hB := bt hB B5
  have m1 := m1.old B5
  refine s_end (K1 _ _ ?_)
  refine wp_seq_k fun _ K2 => ?_
  refine wp_rs fun _ K3 => F.vl (x_fa0 fa24_0 rfl) fun a F => F.ld m1 flat3 rfl rfl fun a F => ?_
  refine s_end (K3 _ _ ?_)
  refine wp_block ?_
  refine wp_rs fun _ K4 => F.vl (eqlF (by omega) rfl rfl) fun a F => F.sg rfl fun a F => ?_
  refine s_end (K4 _ _ ?_)
  refine wp_if F rfl ?_
  refine wp_rs fun _ K5 => F.vl (eqlF (by omega) rfl rfl) fun a F => F.sg rfl fun a F => ?_
  refine s_end (K5 _ _ ?_)
  refine wp_if F rfl ?_
  refine wp_rs fun _ K6 => F.vl (eqlT (by omega) rfl rfl) fun a F => F.sg rfl fun a F => ?_
  refine s_end (K6 _ _ ?_)
  refine wp_if F rfl ?_
  refine dk2_seq (b2) (b2) (ops := regOps Try.f152 13) (N := 9) (by kernel_rfl) wide_orders (by kernel_rfl) fun w6 hw6 B7 hS K7 K7 => ?_
  have zw6 : w6.heap.size = w4.heap.size := by rw [hw6]
  have sB7 := B7.size
  have hB := bt hB B7
  have m1 := m1.old B7
  have m2 := m2.old B7
  have m1_d := m1
  have m2_d := m2
  have hB_d := hB
  refine F.dv 0 32 (.fieldAddr 24 (.tmp 1) 2) hS (fun W hW => x_fa0 fa24_2 rfl) fun a F => F.dv 1 33 (.load 22 (.tmp 32)) hS (fun W hW => x_load rfl (m_load flat22 ((m1_d.k2 hW (by omega)).cell (j := 2) rfl))) fun a F => F.dv 2 34 (.indexAddr 22 (.tmp 33) (.const (.int .i64 0))) hS (fun W hW => x_ixa rfl rfl (m_ixsK 0 Try.underlying22 el22.size rfl (by omega))) fun a F => F.dv 3 35 (.load 24 (.tmp 34)) hS (fun W hW => x_ldA wide24 (hrow _ (hW.under hB_d (by omega))) rfl rfl) fun a F => F.dv 5 37 (.fieldAddr 24 (.tmp 1) 1) hS (fun W hW => x_fa0 fa24_1 rfl) fun a F => F.dv 6 38 (.load 3 (.tmp 37)) hS (fun W hW => x_load rfl (m_load flat3 ((m1_d.k2 hW (by omega)).cell (j := 1) rfl))) fun a F => ?_
  refine d1 4 (some 36) (.call (.mk (.value (.func 152)) #[(.tmp 35)] #[24])) fun ty pos af => ?_
  refine s_callR (R := fun u w' => ∃ v', u = .agg [.int .i64 (nfC sa), v'].toArray ∧ Rd w' v' 1 (nfK sa).length (ints (nfK sa)) ∧ ∀ j, v'.ownBlock = some j → w6.heap.size ≤ j) [_] F E152 rfl (by decide) (iha _ w6 (RS.below hB hy) hnm.2.2) ?_
  rintro _ w8 a ⟨v1, rfl, hv1, hy1⟩ B9 F
  have sB9 := B9.size
  have hB := bt hB B9
  have m2 := m2.old B9
  have hS := hS.below B9
  have h1v1 := hv1.one
  refine s_end ⟨hS, ?_⟩
  refine d1 7 (some 39) (.call (.mk (.value (.func 154)) #[(.tmp 36), (.tmp 38)] #[156, 3])) fun ty pos af => ?_
  refine s_callR (R := fun u w' => ∃ v', u = .agg [.int .i64 (setl (plusC (nfC sa) (nfK sa) p) (tidyK (plusK (nfK sa) p))), v'].toArray ∧ Rd w' v' 1 (tidyK (plusK (nfK sa) p)).length (ints (tidyK (plusK (nfK sa) p))) ∧ ∀ j, v'.ownBlock = some j → w8.heap.size ≤ j) [_, _] F E154 rfl (by decide) (plus42 (nfC sa) (nfK sa) _ p w8 (nfC_nn sa) (nfC_le sa) (by omega) (by omega) (by have := rk_len sa 0 [] 1001 hnm.2.2 (by simp); unfold nfK; omega) (nfK_lo sa) (nfK_hi sa) hv1) ?_
  rintro _ w10 a ⟨v3, rfl, hv3, hy3⟩ B11 F
  have sB11 := B11.size
  have hB := bt hB B11
  have m2 := m2.old B11
  have hS := hS.below B11
  rw [plusK_is] at hv3 F
  rw [plusC_is] at F
  have h1v3 := hv3.one
  refine s_end ⟨hS, ?_⟩
  refine d1 8 none (.store 156 (.tmp 2) (.tmp 39)) fun ty pos af => ?_
  refine s_putW F rfl rfl (size_wide wide36) m2 rfl (one2 h1v3) fun w12 m2 o13 => ?_
  have so13 := o13.size
  have hB := hB.trans (o13.below (by omega))
  have hv3 := rd_only hv3 o13 (fun h => by have := hy3 _ h; omega)
  have hS := hS.only o13 (by omega)
  refine s_end ⟨hS, ?_⟩
  refine d_end (by kernel_rfl) (K7 _ _ ?_)
  refine wp_ret (inb_ret (then_ret (res_cell F rfl rfl m2 wide36 ⟨_, rfl, ⟨v3, rfl, hv3, fun j h => by have := hy3 j h; omega⟩, hB⟩)))
 | mx sa sb iha ihb =>
  rintro ⟨k, n, vx⟩ w0 hS0 hnm
  have hB := Below.refl w0.heap.size w0
  have sB := hB.size
  obtain ⟨h1, y, z, h3, hy, hz⟩ := hS0
  simp only at h1 h3
  subst h1
  obtain ⟨b, off, cp, rfl, hrow1, hrow2⟩ := rd_row2 h3
  refine calls_fs 51 [(0, .agg [.int .i64 4, .int .i64 n, .slice (some ⟨b, off, none⟩) 2 cp].toArray)] Try.func152 rfl rfl rfl rfl rfl fun a F => ?_
  refine wp_rs fun _ K1 => ?_
  refine s_box ([.int .i64 4, .int .i64 n, .slice (some ⟨b, off, none⟩) 2 cp]) F (by decide) rfl rfl fun w2 b1 a eb1 m1 B3 zb1 F => ?_
  have sB3 := B3.size
  have hB := bt hB B3
  refine s_alloc F (by decide) zero36 fun w4 b2 a eb2 m2 B5 zb2 F => ?_
  have sB5 := B5.size
  have hB := bt hB B5
  have m1 := m1.old B5
  refine s_end (K1 _ _ ?_)
  refine wp_seq_k fun _ K2 => ?_
  refine wp_rs fun _ K3 => F.vl (x_fa0 fa24_0 rfl) fun a F => F.ld m1 flat3 rfl rfl fun a F => ?_
  refine s_end (K3 _ _ ?_)
  refine wp_block ?_
  refine wp_rs fun _ K4 => F.vl (eqlF (by omega) rfl rfl) fun a F => F.sg rfl fun a F => ?_
  refine s_end (K4 _ _ ?_)
  refine wp_if F rfl ?_
  refine wp_rs fun _ K5 => F.vl (eqlF (by omega) rfl rfl) fun a F => F.sg rfl fun a F => ?_
  refine s_end (K5 _ _ ?_)
  refine wp_if F rfl ?_
  refine wp_rs fun _ K6 => F.vl (eqlF (by omega) rfl rfl) fun a F => F.sg rfl fun a F => ?_
  refine s_end (K6 _ _ ?_)
  refine wp_if F rfl ?_
  refine wp_skip (K2 _ _ ?_)
  refine dk2_seq (b2) (b2) (ops := regOps Try.f152 14) (N := 12) (by kernel_rfl) wide_orders (by kernel_rfl) fun w6 hw6 B7 hS K7 K7 => ?_
  have zw6 : w6.heap.size = w4.heap.size := by rw [hw6]
  have sB7 := B7.size
  have hB := bt hB B7
  have m1 := m1.old B7
  have m2 := m2.old B7
  have m1_d := m1
  have m2_d := m2
  have hB_d := hB
  refine F.dv 0 40 (.fieldAddr 24 (.tmp 1) 2) hS (fun W hW => x_fa0 fa24_2 rfl) fun a F => F.dv 1 41 (.load 22 (.tmp 40)) hS (fun W hW => x_load rfl (m_load flat22 ((m1_d.k2 hW (by omega)).cell (j := 2) rfl))) fun a F => F.dv 2 42 (.indexAddr 22 (.tmp 41) (.const (.int .i64 0))) hS (fun W hW => x_ixa rfl rfl (m_ixsK 0 Try.underlying22 el22.size rfl (by omega))) fun a F => F.dv 3 43 (.load 24 (.tmp 42)) hS (fun W hW => x_ldA wide24 (hrow1 _ (hW.under hB_d (by omega))) rfl rfl) fun a F => F.dv 5 45 (.fieldAddr 24 (.tmp 1) 2) hS (fun W hW => x_fa0 fa24_2 rfl) fun a F => F.dv 6 46 (.load 22 (.tmp 45)) hS (fun W hW => x_load rfl (m_load flat22 ((m1_d.k2 hW (by omega)).cell (j := 2) rfl))) fun a F => F.dv 7 47 (.indexAddr 22 (.tmp 46) (.const (.int .i64 1))) hS (fun W hW => x_ixa rfl rfl (m_ixsK 1 Try.underlying22 el22.size rfl (by omega))) fun a F => F.dv 8 48 (.load 24 (.tmp 47)) hS (fun W hW => x_ldA wide24 (hrow2 _ (hW.under hB_d (by omega))) rfl rfl) fun a F => ?_
  refine d1 4 (some 44) (.call (.mk (.value (.func 152)) #[(.tmp 43)] #[24])) fun ty pos af => ?_
  refine s_callR (R := fun u w' => ∃ v', u = .agg [.int .i64 (nfC sa), v'].toArray ∧ Rd w' v' 1 (nfK sa).length (ints (nfK sa)) ∧ ∀ j, v'.ownBlock = some j → w6.heap.size ≤ j) [_] F E152 rfl (by decide) (iha _ w6 (RS.below hB hy) hnm.1) ?_
  rintro _ w8 a ⟨v1, rfl, hv1, hy1⟩ B9 F
  have sB9 := B9.size
  have hB := bt hB B9
  have m2 := m2.old B9
  have hS := hS.below B9
  have h1v1 := hv1.one
  refine s_end ⟨hS, ?_⟩
  refine d1 9 (some 49) (.call (.mk (.value (.func 152)) #[(.tmp 48)] #[24])) fun ty pos af => ?_
  refine s_callR (R := fun u w' => ∃ v', u = .agg [.int .i64 (nfC sb), v'].toArray ∧ Rd w' v' 1 (nfK sb).length (ints (nfK sb)) ∧ ∀ j, v'.ownBlock = some j → w8.heap.size ≤ j) [_] F E152 rfl (by decide) (ihb _ w8 (RS.below hB hz) hnm.2) ?_
  rintro _ w10 a ⟨v2, rfl, hv2, hy2⟩ B11 F
  have sB11 := B11.size
  have hB := bt hB B11
  have m2 := m2.old B11
  have hv1 := hv1.below B11
  have hS := hS.below B11
  have h1v2 := hv2.one
  refine s_end ⟨hS, ?_⟩
  refine d1 10 (some 50) (.call (.mk (.value (.func 153)) #[(.tmp 44), (.tmp 49)] #[156, 156])) fun ty pos af => ?_
  refine s_callR (R := fun u w' => ∃ v', u = .agg [.int .i64 (setl (max (nfC sa) (nfC sb)) (tidyK (bothK (nfK sa) (nfK sb)))), v'].toArray ∧ Rd w' v' 1 (tidyK (bothK (nfK sa) (nfK sb))).length (ints (tidyK (bothK (nfK sa) (nfK sb)))) ∧ ∀ j, v'.ownBlock = some j → w10.heap.size ≤ j) [_, _] F E153 rfl (by decide) (both43 (nfC sa) (nfC sb) (nfK sa) (nfK sb) _ _ w10 (nfC_nn sa) (nfC_nn sb) (by have := rk_len sa 0 [] 1001 hnm.1 (by simp); unfold nfK; omega) (by have := rk_len sb 0 [] 1001 hnm.2 (by simp); unfold nfK; omega) (nfK_lo sa) (nfK_lo sb) hv1 hv2) ?_
  rintro _ w12 a ⟨v3, rfl, hv3, hy3⟩ B13 F
  have sB13 := B13.size
  have hB := bt hB B13
  have m2 := m2.old B13
  have hS := hS.below B13
  rw [bothK_is] at hv3 F
  rw [← nfC_mx] at F
  have h1v3 := hv3.one
  refine s_end ⟨hS, ?_⟩
  refine d1 11 none (.store 156 (.tmp 2) (.tmp 50)) fun ty pos af => ?_
  refine s_putW F rfl rfl (size_wide wide36) m2 rfl (one2 h1v3) fun w14 m2 o15 => ?_
  have so15 := o15.size
  have hB := hB.trans (o15.below (by omega))
  have hv3 := rd_only hv3 o15 (fun h => by have := hy3 _ h; omega)
  have hS := hS.only o15 (by omega)
  refine s_end ⟨hS, ?_⟩
  refine d_end (by kernel_rfl) (K7 _ _ ?_)
  refine wp_ret (res_cell F rfl rfl m2 wide36 ⟨_, rfl, ⟨v3, rfl, hv3, fun j h => by have := hy3 j h; omega⟩, hB⟩)
theorem sameForm45 (c d : Int) (v u : Value) (ks ls : List Int) (w0 : World) (hl : ks.length ≤ 9223372036854775807) (hV : Rd w0 v 1 ks.length (ints ks)) (hU : Rd w0 u 1 ls.length (ints ls)) : Calls Try.prog 166 #[.agg [.int .i64 c, v].toArray, .agg [.int .i64 d, u].toArray] w0 fun e w' => e = .returned (.bool (decide (c = d ∧ ks = ls))) ∧ Below w0.heap.size w0 w' := by
 obtain ⟨av, cv, rfl, _⟩ := hV.form
 obtain ⟨au, cu, rfl, _⟩ := hU.form
 have hB := Below.refl w0.heap.size w0
 have sB := hB.size
 refine calls_fs 38 [(0, .agg [.int .i64 c, .slice av ks.length cv].toArray), (1, .agg [.int .i64 d, .slice au ls.length cu].toArray)] Try.func166 rfl rfl rfl rfl rfl fun a F => ?_
 refine wp_rs fun _ K1 => ?_
 refine s_box ([.int .i64 c, .slice av ks.length cv]) F (by decide) rfl rfl fun w2 b2 a eb2 m2 B3 zb2 F => ?_
 have sB3 := B3.size
 have hB := bt hB B3
 refine s_box ([.int .i64 d, .slice au ls.length cu]) F (by decide) rfl rfl fun w4 b3 a eb3 m3 B5 zb3 F => ?_
 have sB5 := B5.size
 have hB := bt hB B5
 have m2 := m2.old B5
 refine F.sg rfl fun a F => ?_
 refine s_end (K1 _ _ ?_)
 refine wp_seq_k fun _ K2 => ?_
 rcases (show c ≠ d ∨ (c = d ∧ ks.length ≠ ls.length) ∨ (c = d ∧ ks.length = ls.length) by omega) with hq | hq | hq
 ·
  skip
  refine wp_rs fun _ K4 => F.vl (x_fa0 fa36_0 rfl) fun a F => F.ld m2 flat3 rfl rfl fun a F => F.vl (x_fa0 fa36_0 rfl) fun a F => F.ld m3 flat3 rfl rfl fun a F => F.vl (neqT (by omega) rfl rfl) fun a F => F.mv rfl fun a F => s_grdn 11 F rfl rfl (by decide) fun a F => s_grdn 11 F rfl rfl (by decide) fun a F => s_grdn 11 F rfl rfl (by decide) fun a F => s_grdn 11 F rfl rfl (by decide) fun a F => s_grdn 11 F rfl rfl (by decide) fun a F => s_grdn 11 F rfl rfl (by decide) fun a F => s_grdn 11 F rfl rfl (by decide) fun a F => F.vl (x_pick (b := true) rfl rfl) fun a F => ?_
  refine s_end (K4 _ _ ?_)
  refine wp_if F rfl ?_
  refine wp_rs fun _ K5 => F.sg rfl fun a F => ?_
  refine s_end (K5 _ _ ?_)
  refine wp_ret (then_ret (res_slot F rfl rfl ⟨by rw [decide_eq_false (fun h => hq h.1)], hB⟩))
 ·
  skip
  refine wp_rs fun _ K6 => F.vl (x_fa0 fa36_0 rfl) fun a F => F.ld m2 flat3 rfl rfl fun a F => F.vl (x_fa0 fa36_0 rfl) fun a F => F.ld m3 flat3 rfl rfl fun a F => F.vl (neqF (by omega) rfl rfl) fun a F => F.mv rfl fun a F => s_grd 11 F rfl rfl rfl <| F.vl (x_fa0 fa36_1 rfl) fun a F => s_grd 11 F rfl rfl rfl <| F.ld m2 flat29 rfl rfl fun a F => s_grd 11 F rfl rfl rfl <| F.vl (x_len Try.underlying117 rfl) fun a F => s_grd 11 F rfl rfl rfl <| F.vl (x_fa0 fa36_1 rfl) fun a F => s_grd 11 F rfl rfl rfl <| F.ld m3 flat29 rfl rfl fun a F => s_grd 11 F rfl rfl rfl <| F.vl (x_len Try.underlying117 rfl) fun a F => s_grd 11 F rfl rfl rfl <| F.vl (neqT (by omega) rfl rfl) fun a F => F.vl (x_pick (b := false) rfl rfl) fun a F => ?_
  refine s_end (K6 _ _ ?_)
  refine wp_if F rfl ?_
  refine wp_rs fun _ K7 => F.sg rfl fun a F => ?_
  refine s_end (K7 _ _ ?_)
  refine wp_ret (then_ret (res_slot F rfl rfl ⟨by rw [decide_eq_false (fun h => hq.2 (by rw [h.2]))], hB⟩))
 ·
  skip
  refine wp_rs fun _ K8 => F.vl (x_fa0 fa36_0 rfl) fun a F => F.ld m2 flat3 rfl rfl fun a F => F.vl (x_fa0 fa36_0 rfl) fun a F => F.ld m3 flat3 rfl rfl fun a F => F.vl (neqF (by omega) rfl rfl) fun a F => F.mv rfl fun a F => s_grd 11 F rfl rfl rfl <| F.vl (x_fa0 fa36_1 rfl) fun a F => s_grd 11 F rfl rfl rfl <| F.ld m2 flat29 rfl rfl fun a F => s_grd 11 F rfl rfl rfl <| F.vl (x_len Try.underlying117 rfl) fun a F => s_grd 11 F rfl rfl rfl <| F.vl (x_fa0 fa36_1 rfl) fun a F => s_grd 11 F rfl rfl rfl <| F.ld m3 flat29 rfl rfl fun a F => s_grd 11 F rfl rfl rfl <| F.vl (x_len Try.underlying117 rfl) fun a F => s_grd 11 F rfl rfl rfl <| F.vl (neqF (by omega) rfl rfl) fun a F => F.vl (x_pick (b := false) rfl rfl) fun a F => ?_
  refine s_end (K8 _ _ ?_)
  refine wp_if F rfl ?_
  refine wp_skip (K2 _ _ ?_)
  refine wp_seq_k fun _ K9 => ?_
  refine wp_rs fun _ K10 => F.vl (x_fa0 fa36_1 rfl) fun a F => F.ld m2 flat29 rfl rfl fun a F => F.vl (x_len Try.underlying117 rfl) fun a F => F.mv rfl fun a F => ?_
  refine s_end (K10 _ _ ?_)
  refine wp_block ?_
  refine wp_up ks.length (fun i a w => ks.take i = ls.take i ∧ Blk w b2 156 [.int .i64 c, .slice av ks.length cv] ∧ Blk w b3 156 [.int .i64 d, .slice au ls.length cu] ∧ Below w0.heap.size w0 w ∧ Fs 38 a [(23, .int .i64 (i : Int)), (22, .int .i64 (ks.length : Int)), (2, .pointer (some ⟨b2, 0, none⟩)), (3, .pointer (some ⟨b3, 0, none⟩))]) ⟨by simp, m2, m3, hB, F.sub _ rfl⟩ ?_
  repeat clear F
  clear hB m2 m3
  rintro i a w hi ⟨heq, m2, m3, hB, F⟩ K' hK'
  have sB := hB.size
  have hm2 := m2.lt
  have hm3 := m3.lt
  refine wp_rs fun _ K11 => F.vl (x_lss rfl rfl rfl) fun a F => ?_
  refine s_end (K11 _ _ ?_)
  refine wp_seq_k fun _ K12 => ?_
  refine wp_iff F rfl (fun hc24 => ?_) (fun hc24 => ?_)
  ·
   obtain ⟨b4, off4, c4, hve, hrow1⟩ := rd_rowI hV (i := i) (by omega)
   cases hve
   obtain ⟨b5, off5, c5, hve, hrow2⟩ := rd_rowI hU (i := i) (by omega)
   cases hve
   refine wp_skip (K12 _ _ ?_)
   refine wp_seq_k fun _ K13 => ?_
   refine wp_block ?_
   refine wp_rs fun _ K14 => F.mv rfl fun a F => F.sg rfl fun a F => ?_
   refine s_end (K14 _ _ ?_)
   refine dk2_seq (w.heap.size) (w.heap.size) (ops := regOps Try.f166 6) (N := 11) (by kernel_rfl) wide_orders (by kernel_rfl) fun w6 hw6 B7 hS K15 hK15 => ?_
   have zw6 : w6.heap.size = w.heap.size := by rw [hw6]
   have sB7 := B7.size
   have hB := bt hB B7
   have m2 := m2.old B7
   have m3 := m3.old B7
   have m2_d := m2
   have m3_d := m3
   have hB_d := hB
   refine F.dv 0 26 (.fieldAddr 156 (.tmp 2) 1) hS (fun W hW => x_fa0 fa36_1 rfl) fun a F => F.dv 1 27 (.load 117 (.tmp 26)) hS (fun W hW => x_load rfl (m_load flat29 ((m2_d.k2 hW (by omega)).cell (j := 1) rfl))) fun a F => F.dv 2 28 (.move (.tmp 5)) hS (fun W hW => x_move rfl) fun a F => F.dv 3 29 (.indexAddr 117 (.tmp 27) (.tmp 28)) hS (fun W hW => x_ixa rfl rfl (m_ixs i Try.underlying117 el29.size rfl (by omega))) fun a F => F.dv 4 30 (.load 3 (.tmp 29)) hS (fun W hW => x_load rfl (m_load flat3 (hrow1 _ (hW.under hB_d (by omega))))) fun a F => F.dv 5 31 (.fieldAddr 156 (.tmp 3) 1) hS (fun W hW => x_fa0 fa36_1 rfl) fun a F => F.dv 6 32 (.load 117 (.tmp 31)) hS (fun W hW => x_load rfl (m_load flat29 ((m3_d.k2 hW (by omega)).cell (j := 1) rfl))) fun a F => F.dv 7 33 (.move (.tmp 5)) hS (fun W hW => x_move rfl) fun a F => F.dv 8 34 (.indexAddr 117 (.tmp 32) (.tmp 33)) hS (fun W hW => x_ixa rfl rfl (m_ixs i Try.underlying117 el29.size rfl (by omega))) fun a F => F.dv 9 35 (.load 3 (.tmp 34)) hS (fun W hW => x_load rfl (m_load flat3 (hrow2 _ (hW.under hB_d (by omega))))) fun a F => F.dv 10 36 (.binOp .neq 3 (.tmp 30) (.tmp 35) 3) hS (fun W hW => x_neq rfl rfl rfl) fun a F => ?_
   refine d_end (by kernel_rfl) (hK15 _ _ ?_)
   refine wp_iff F rfl (fun hc36 => ?_) (fun hc36 => ?_)
   ·
    refine wp_rs fun _ K16 => F.sg rfl fun a F => ?_
    refine s_end (K16 _ _ ?_)
    refine wp_ret (inb_ret (then_ret (then_ret (inb_ret (then_ret (res_slot F rfl rfl ⟨by rw [decide_eq_false (fun h => hc36 (by rw [h.2]))], hB⟩))))))
   ·
    refine wp_skip (K13 _ _ ?_)
    refine wp_region_lit ?_
    refine F.vl (x_addn (i + 1) (by omega) (by omega) rfl rfl) fun a F => F.mv rfl fun a F => ?_
    have heq2 : ks.take (i + 1) = ls.take (i + 1) := by rw [List.take_add_one, List.take_add_one, heq, List.getElem?_eq_getElem (by omega), List.getElem?_eq_getElem (by omega)]; rw [gt_lt (by omega), gt_lt (by omega)] at hc36; rw [show ks[i] = ls[i] by omega]
    refine s_end (hK' _ _ (by omega) ⟨heq2, m2, m3, hB, F.sub _ rfl⟩)
  ·
   refine wp_exit (K9 _ _ ?_)
   refine wp_rs fun _ K17 => F.sg rfl fun a F => ?_
   refine s_end (K17 _ _ ?_)
   refine wp_ret (res_slot F rfl rfl ⟨by rw [decide_eq_true (show c = d ∧ ks = ls from ⟨hq.1, by rw [← List.take_of_length_le (l := ks) (i := i) (by omega), ← List.take_of_length_le (l := ls) (i := i) (by omega)]; exact heq⟩)], hB⟩)
theorem rEqual24 (x y : C3) (la lb : Lv) (w0 : World) (hLa : RL w0 x la) (hLb : RL w0 y lb) : Calls Try.prog 151 #[lv x, lv y] w0 fun e w' => ∃ v, e = .returned v ∧ (∃ b, v = .bool b ∧ TB w0 x y la lb eqF b) ∧ Below w0.heap.size w0 w' := by
 have hB := Below.refl w0.heap.size w0
 have sB := hB.size
 refine calls_fs 18 [(0, lv x), (1, lv y)] Try.func151 rfl rfl rfl rfl rfl fun a F => ?_
 refine wp_rs fun _ K1 => ?_
 refine s_box (lc x) F (by decide) rfl rfl fun w2 b2 a eb2 m2 B3 zb2 F => ?_
 have sB3 := B3.size
 have hB := bt hB B3
 refine s_box (lc y) F (by decide) rfl rfl fun w4 b3 a eb3 m3 B5 zb3 F => ?_
 have sB5 := B5.size
 have hB := bt hB B5
 have m2 := m2.old B5
 refine F.sg rfl fun a F => ?_
 refine s_end (K1 _ _ ?_)
 rcases (show decide (sndL la) = false ∨ (decide (sndL la) = true ∧ decide (sndL lb) = false) ∨ (decide (sndL la) = true ∧ decide (sndL lb) = true) by cases decide (sndL la) <;> cases decide (sndL lb) <;> simp) with hd1 | ⟨hd1, hd2⟩ | ⟨hd1, hd2⟩
 ·
  have hn : ¬ (sndL la ∧ sndL lb) := fun h => by exact absurd h.1 (of_decide_eq_false hd1)
  refine dk2_seq (w4.heap.size) (w4.heap.size) (ops := regOps Try.f151 1) (N := 14) (by kernel_rfl) wide_orders (by kernel_rfl) fun w6 hw6 B7 hS K3 K3 => ?_
  have zw6 : w6.heap.size = w4.heap.size := by rw [hw6]
  have sB7 := B7.size
  have hB := bt hB B7
  have m2 := m2.old B7
  have m3 := m3.old B7
  have m2_d := m2
  have m3_d := m3
  have hB_d := hB
  refine F.dv 0 5 (.load 24 (.tmp 2)) hS (fun W hW => x_ldW wide24 (m2_d.k2 hW (by omega)) rfl rfl) fun a F => ?_
  refine d1 1 (some 6) (.call (.mk (.value (.func 43)) #[(.tmp 5)] #[24])) fun ty pos af => ?_
  refine s_callB [_] F E43 rfl (by decide) (rSound17 x la w6 (hLa.old hB)) fun w8 a B9 F => ?_
  have sB9 := B9.size
  have hB := bt hB B9
  have hS := hS.below B9
  rw [hd1] at F
  refine s_end ⟨hS, ?_⟩
  refine F.dv 2 7 (.move (.tmp 6)) hS (fun W hW => x_move rfl) fun a F => d_skip 3 8 7 (j := 2) (want := true) (op := (.load 24 (.tmp 3))) F hS (by kernel_rfl) (by kernel_rfl) rfl (by kernel_rfl) (by decide) fun a F => d_skip 4 9 7 (j := 2) (want := true) (op := (.call (.mk (.value (.func 43)) #[(.tmp 8)] #[24]))) F hS (by kernel_rfl) (by kernel_rfl) rfl (by kernel_rfl) (by decide) fun a F => F.dv 5 10 (.pick (.tmp 7) (.tmp 9) (.const (.bool false))) hS (fun W hW => x_pick (b := false) rfl rfl) fun a F => F.dv 6 11 (.move (.tmp 10)) hS (fun W hW => x_move rfl) fun a F => d_skip 7 12 11 (j := 6) (want := true) (op := (.load 24 (.tmp 2))) F hS (by kernel_rfl) (by kernel_rfl) rfl (by kernel_rfl) (by decide) fun a F => d_skip 8 13 11 (j := 6) (want := true) (op := (.call (.mk (.value (.func 152)) #[(.tmp 12)] #[24]))) F hS (by kernel_rfl) (by kernel_rfl) rfl (by kernel_rfl) (by decide) fun a F => d_skip 9 14 11 (j := 6) (want := true) (op := (.load 24 (.tmp 3))) F hS (by kernel_rfl) (by kernel_rfl) rfl (by kernel_rfl) (by decide) fun a F => d_skip 10 15 11 (j := 6) (want := true) (op := (.call (.mk (.value (.func 152)) #[(.tmp 14)] #[24]))) F hS (by kernel_rfl) (by kernel_rfl) rfl (by kernel_rfl) (by decide) fun a F => d_skip 11 16 11 (j := 6) (want := true) (op := (.call (.mk (.value (.func 166)) #[(.tmp 13), (.tmp 15)] #[156, 156]))) F hS (by kernel_rfl) (by kernel_rfl) rfl (by kernel_rfl) (by decide) fun a F => F.dv 12 17 (.pick (.tmp 11) (.tmp 16) (.const (.bool false))) hS (fun W hW => x_pick (b := false) rfl rfl) fun a F => F.dv 13 4 (.assign (.tmp 17)) hS (fun W hW => x_assign rfl) fun a F => ?_
  refine d_end (by kernel_rfl) (K3 _ _ ?_)
  refine wp_ret (res_slot F rfl rfl ⟨_, rfl, ⟨_, rfl, fun _ => rfl, fun s t hs ht g1 g2 => absurd ⟨rs_snd hLa hs g1, rs_snd hLb ht g2⟩ hn⟩, hB⟩)
 ·
  have hn : ¬ (sndL la ∧ sndL lb) := fun h => by exact absurd h.2 (of_decide_eq_false hd2)
  refine dk2_seq (w4.heap.size) (w4.heap.size) (ops := regOps Try.f151 1) (N := 14) (by kernel_rfl) wide_orders (by kernel_rfl) fun w10 hw10 B11 hS K4 K4 => ?_
  have zw10 : w10.heap.size = w4.heap.size := by rw [hw10]
  have sB11 := B11.size
  have hB := bt hB B11
  have m2 := m2.old B11
  have m3 := m3.old B11
  have m2_d := m2
  have m3_d := m3
  have hB_d := hB
  refine F.dv 0 5 (.load 24 (.tmp 2)) hS (fun W hW => x_ldW wide24 (m2_d.k2 hW (by omega)) rfl rfl) fun a F => ?_
  refine d1 1 (some 6) (.call (.mk (.value (.func 43)) #[(.tmp 5)] #[24])) fun ty pos af => ?_
  refine s_callB [_] F E43 rfl (by decide) (rSound17 x la w10 (hLa.old hB)) fun w12 a B13 F => ?_
  have sB13 := B13.size
  have hB := bt hB B13
  have hS := hS.below B13
  rw [hd1] at F
  refine s_end ⟨hS, ?_⟩
  refine F.dv 2 7 (.move (.tmp 6)) hS (fun W hW => x_move rfl) fun a F => F.dg 3 8 7 2 true (.load 24 (.tmp 3)) hS rfl (fun W hW => x_ldW wide24 (m3_d.k2 hW (by omega)) rfl rfl) fun a F => ?_
  refine d_oneg 4 7 (some 9) (.call (.mk (.value (.func 43)) #[(.tmp 8)] #[24])) (j := 2) (want := true) F (by kernel_rfl) (by kernel_rfl) (by kernel_rfl) rfl fun ty pos af => ?_
  refine s_callB [_] F E43 rfl (by decide) (rSound17 y lb w12 (hLb.old hB)) fun w14 a B15 F => ?_
  have sB15 := B15.size
  have hB := bt hB B15
  have hS := hS.below B15
  rw [hd2] at F
  refine s_end ⟨hS, ?_⟩
  refine F.dv 5 10 (.pick (.tmp 7) (.tmp 9) (.const (.bool false))) hS (fun W hW => x_pick (b := true) rfl rfl) fun a F => F.dv 6 11 (.move (.tmp 10)) hS (fun W hW => x_move rfl) fun a F => d_skip 7 12 11 (j := 6) (want := true) (op := (.load 24 (.tmp 2))) F hS (by kernel_rfl) (by kernel_rfl) rfl (by kernel_rfl) (by decide) fun a F => d_skip 8 13 11 (j := 6) (want := true) (op := (.call (.mk (.value (.func 152)) #[(.tmp 12)] #[24]))) F hS (by kernel_rfl) (by kernel_rfl) rfl (by kernel_rfl) (by decide) fun a F => d_skip 9 14 11 (j := 6) (want := true) (op := (.load 24 (.tmp 3))) F hS (by kernel_rfl) (by kernel_rfl) rfl (by kernel_rfl) (by decide) fun a F => d_skip 10 15 11 (j := 6) (want := true) (op := (.call (.mk (.value (.func 152)) #[(.tmp 14)] #[24]))) F hS (by kernel_rfl) (by kernel_rfl) rfl (by kernel_rfl) (by decide) fun a F => d_skip 11 16 11 (j := 6) (want := true) (op := (.call (.mk (.value (.func 166)) #[(.tmp 13), (.tmp 15)] #[156, 156]))) F hS (by kernel_rfl) (by kernel_rfl) rfl (by kernel_rfl) (by decide) fun a F => F.dv 12 17 (.pick (.tmp 11) (.tmp 16) (.const (.bool false))) hS (fun W hW => x_pick (b := false) rfl rfl) fun a F => F.dv 13 4 (.assign (.tmp 17)) hS (fun W hW => x_assign rfl) fun a F => ?_
  refine d_end (by kernel_rfl) (K4 _ _ ?_)
  refine wp_ret (res_slot F rfl rfl ⟨_, rfl, ⟨_, rfl, fun _ => rfl, fun s t hs ht g1 g2 => absurd ⟨rs_snd hLa hs g1, rs_snd hLb ht g2⟩ hn⟩, hB⟩)
 ·
  have hsa : sndL la := of_decide_eq_true hd1
  have hsb : sndL lb := of_decide_eq_true hd2
  obtain ⟨s, hs, hsg⟩ := sound_sl hLa hsa
  obtain ⟨t, ht, htg⟩ := sound_sl hLb hsb
  have hns := nfK_len s hsg
  have hnt := nfK_len t htg
  refine dk2_seq (w4.heap.size) (w4.heap.size) (ops := regOps Try.f151 1) (N := 14) (by kernel_rfl) wide_orders (by kernel_rfl) fun w16 hw16 B17 hS K5 K5 => ?_
  have zw16 : w16.heap.size = w4.heap.size := by rw [hw16]
  have sB17 := B17.size
  have hB := bt hB B17
  have m2 := m2.old B17
  have m3 := m3.old B17
  have m2_d := m2
  have m3_d := m3
  have hB_d := hB
  refine F.dv 0 5 (.load 24 (.tmp 2)) hS (fun W hW => x_ldW wide24 (m2_d.k2 hW (by omega)) rfl rfl) fun a F => ?_
  refine d1 1 (some 6) (.call (.mk (.value (.func 43)) #[(.tmp 5)] #[24])) fun ty pos af => ?_
  refine s_callB [_] F E43 rfl (by decide) (rSound17 x la w16 (hLa.old hB)) fun w18 a B19 F => ?_
  have sB19 := B19.size
  have hB := bt hB B19
  have hS := hS.below B19
  rw [hd1] at F
  refine s_end ⟨hS, ?_⟩
  refine F.dv 2 7 (.move (.tmp 6)) hS (fun W hW => x_move rfl) fun a F => F.dg 3 8 7 2 true (.load 24 (.tmp 3)) hS rfl (fun W hW => x_ldW wide24 (m3_d.k2 hW (by omega)) rfl rfl) fun a F => ?_
  refine d_oneg 4 7 (some 9) (.call (.mk (.value (.func 43)) #[(.tmp 8)] #[24])) (j := 2) (want := true) F (by kernel_rfl) (by kernel_rfl) (by kernel_rfl) rfl fun ty pos af => ?_
  refine s_callB [_] F E43 rfl (by decide) (rSound17 y lb w18 (hLb.old hB)) fun w20 a B21 F => ?_
  have sB21 := B21.size
  have hB := bt hB B21
  have hS := hS.below B21
  rw [hd2] at F
  refine s_end ⟨hS, ?_⟩
  refine F.dv 5 10 (.pick (.tmp 7) (.tmp 9) (.const (.bool false))) hS (fun W hW => x_pick (b := true) rfl rfl) fun a F => F.dv 6 11 (.move (.tmp 10)) hS (fun W hW => x_move rfl) fun a F => F.dg 7 12 11 6 true (.load 24 (.tmp 2)) hS rfl (fun W hW => x_ldW wide24 (m2_d.k2 hW (by omega)) rfl rfl) fun a F => F.dg 9 14 11 6 true (.load 24 (.tmp 3)) hS rfl (fun W hW => x_ldW wide24 (m3_d.k2 hW (by omega)) rfl rfl) fun a F => ?_
  refine d_oneg 8 11 (some 13) (.call (.mk (.value (.func 152)) #[(.tmp 12)] #[24])) (j := 6) (want := true) F (by kernel_rfl) (by kernel_rfl) (by kernel_rfl) rfl fun ty pos af => ?_
  refine s_callR (R := fun u w' => ∃ v', u = .agg [.int .i64 (nfC s), v'].toArray ∧ Rd w' v' 1 (nfK s).length (ints (nfK s)) ∧ ∀ j, v'.ownBlock = some j → w20.heap.size ≤ j) [_] F E152 rfl (by decide) (rNorm20 s x w20 (RS.below hB hs) hsg.2.2) ?_
  rintro _ w22 a ⟨v1, rfl, hv1, hy1⟩ B23 F
  have sB23 := B23.size
  have hB := bt hB B23
  have hS := hS.below B23
  refine s_end ⟨hS, ?_⟩
  refine d_oneg 10 11 (some 15) (.call (.mk (.value (.func 152)) #[(.tmp 14)] #[24])) (j := 6) (want := true) F (by kernel_rfl) (by kernel_rfl) (by kernel_rfl) rfl fun ty pos af => ?_
  refine s_callR (R := fun u w' => ∃ v', u = .agg [.int .i64 (nfC t), v'].toArray ∧ Rd w' v' 1 (nfK t).length (ints (nfK t)) ∧ ∀ j, v'.ownBlock = some j → w22.heap.size ≤ j) [_] F E152 rfl (by decide) (rNorm20 t y w22 (RS.below hB ht) htg.2.2) ?_
  rintro _ w24 a ⟨v2, rfl, hv2, hy2⟩ B25 F
  have sB25 := B25.size
  have hB := bt hB B25
  have hv1 := hv1.below B25
  have hS := hS.below B25
  refine s_end ⟨hS, ?_⟩
  refine d_oneg 11 11 (some 16) (.call (.mk (.value (.func 166)) #[(.tmp 13), (.tmp 15)] #[156, 156])) (j := 6) (want := true) F (by kernel_rfl) (by kernel_rfl) (by kernel_rfl) rfl fun ty pos af => ?_
  refine s_callB [_, _] F E166 rfl (by decide) (sameForm45 _ _ _ _ (nfK s) (nfK t) w24 (by omega) hv1 hv2) fun w26 a B27 F => ?_
  have sB27 := B27.size
  have hB := bt hB B27
  have hS := hS.below B27
  refine s_end ⟨hS, ?_⟩
  refine F.dv 12 17 (.pick (.tmp 11) (.tmp 16) (.const (.bool false))) hS (fun W hW => x_pick (b := true) rfl rfl) fun a F => F.dv 13 4 (.assign (.tmp 17)) hS (fun W hW => x_assign rfl) fun a F => ?_
  refine d_end (by kernel_rfl) (K5 _ _ ?_)
  refine wp_ret (res_slot F rfl rfl ⟨_, rfl, ⟨_, rfl, fun h => absurd ⟨hsa, hsb⟩ h, fun s' t' hs' ht' _ _ => by rw [RS.inj hs' hs, RS.inj ht' ht]; rfl⟩, hB⟩)
end Go.Proofs.Ytmkjhdiepkpdoaa

namespace Go.Proofs.Ytmkjhdiepkpdoaa
set_option maxRecDepth 100000
set_option maxHeartbeats 1600000
open Go.RowKit Go.Shelf
set_option linter.unusedVariables false
set_option linter.unusedSimpArgs false
theorem x_neB {P : Program} {n : Nat} {l : List (Nat × Value)} {w : World} {t t' : TypeId} {x y : Operand} {p q b : Bool} (ht : P.underlying t = some .bool) (h : (p != q) = b) (hx : ov l x = some (.bool p)) (hy : ov l y = some (.bool q)) : Runs P n l w (.binOp .neq t x y t') (.bool b) :=
 x_bin hx hy fun W => ⟨by simp [eqGuard], by
  subst h
  have h := fun d => run_equalIn_bool' (P := P) W d t p q ht
  have h := h 9999
  simp only [binOp, Op.equal, Op.maxDepth]
  simp [h]
  cases p <;> cases q <;> rfl⟩
theorem x_neS {P : Program} {n : Nat} {l : List (Nat × Value)} {w : World} {t t' : TypeId} {x y : Operand} {p q : ByteArray} {b : Bool} (h : decide (p ≠ q) = b) (hx : ov l x = some (.string p)) (hy : ov l y = some (.string q)) : Runs P n l w (.binOp .neq t x y t') (.bool b) :=
 x_bin hx hy fun W => ⟨by simp [eqGuard], by
  subst h
  simp [binOp, Op.stringOp]
  rw [Bool.eq_iff_iff]
  simp only [bne_iff_ne, ne_eq, Bool.not_eq_true', decide_eq_false_iff_not, beq_iff_eq, decide_eq_true_eq, Bool.not_eq_eq_eq_not, Bool.not_true, beq_eq_false_iff_ne]
  refine ⟨fun h => ?_, ?_⟩
  ·
   rw [ByteArray.toList_eq, ByteArray.toList_eq] at h
   exact ByteArray.ext (Array.ext' h)
  ·
   rintro rfl
   rfl⟩
theorem leaf_odd {W : World} {A : Nat → Prop} : ∀ {c : CT} {x : C8}, RC W A c x → (arT c.kd < 0 ∨ (c.len : Int) < arT c.kd) → ∃ k m, c = .odd k m
 | .odd k m, x, _, _ => ⟨k, m, rfl⟩
 | .var n m, x, _, h => by simp [CT.kd, CT.len, arT] at h; omega
 | .sort l m, x, _, h => by simp [CT.kd, CT.len, arT] at h; omega
 | .cst s l m, x, _, h => by simp [CT.kd, CT.len, arT] at h; omega
 | .two k a b m, x, hx, h => by
  have h1 := hx.2.1
  have h2 : arT k = 2 := by rcases h1 with rfl | rfl | rfl <;> rfl
  simp only [CT.kd, CT.len, h2] at h
  omega
 | .lt a b c m, x, _, h => by simp [CT.kd, CT.len, arT] at h; omega
theorem leaf_same {W : World} {A : Nat → Prop} {c d : CT} {x y : C8} (hx : RC W A c x) (hy : RC W A d y) (h : sameP c.ess d.ess) : (arT c.kd < 0 ∨ (c.len : Int) < arT c.kd) ↔ (arT d.kd < 0 ∨ (d.len : Int) < arT d.kd) := by
 constructor
 ·
  intro h1
  obtain ⟨k, m, rfl⟩ := leaf_odd hx h1
  cases d <;> simp only [CT.ess, sameP] at h
  next j n => exact hy.2.1
 ·
  intro h1
  obtain ⟨k, m, rfl⟩ := leaf_odd hy h1
  cases c <;> simp only [CT.ess, sameP] at h
  next j n => exact hx.2.1
theorem rsame82 : ∀ (N : Nat) (c d : CT) (x y : C8) (w0 : World), c.size < N → RC w0 (fun k => k < w0.heap.size) c x → RC w0 (fun k => k < w0.heap.size) d y → c.ess.fit → Calls Try.prog 120 #[tv x, tv y] w0 fun e w' => ∃ z, e = .returned z ∧ (∃ b, z = .bool b ∧ (b = true ↔ sameP c.ess d.ess)) ∧ Below w0.heap.size w0 w' := by
 intro N
 induction N with
 | zero => intro c d x y w0 h; omega
 | succ N ih =>
 intro c d x y w0 hN hx hy hfit
 have h3 := c.kids_le
 have hkc := CT.kids_arT hx
 have hkd_ := CT.kids_arT hy
 have hrc := arT_rng c.kd
 have hrd := arT_rng d.kd
 obtain ⟨av, nv, cv, hts, hle9, hlen9, hcap, hkid⟩ := hx.kids
 obtain ⟨au, nu, cu, hus, hle8, hlen8, hcap8, hkid8⟩ := hy.kids
 obtain ⟨xk, xn, xs, xl, xls, xts⟩ := x
 obtain ⟨yk, yn, ys, yl, yls, yts⟩ := y
 simp only at hts hus
 subst hts hus
 have hkx : xk = c.kd := hx.kd
 have hky : yk = d.kd := hy.kd
 have honex := hx.one
 have honey := hy.one
 have hB := Below.refl w0.heap.size w0
 have sB := hB.size
 refine calls_fs 91 [(0, tv ⟨xk, xn, xs, xl, xls, .slice av nv cv⟩), (1, tv ⟨yk, yn, ys, yl, yls, .slice au nu cu⟩)] Try.func120 rfl rfl rfl rfl rfl fun a F => ?_
 refine wp_rs fun _ K1 => ?_
 refine s_box ([.int .i64 xk, .int .i64 xn, .string xs, .int .i64 xl.1, .int .i64 xl.2.1, xl.2.2, xls, .slice av nv cv]) F (by decide) rfl rfl fun w2 b2 a eb2 m2 B3 zb2 F => ?_
 have sB3 := B3.size
 have hB := bt hB B3
 refine s_box ([.int .i64 yk, .int .i64 yn, .string ys, .int .i64 yl.1, .int .i64 yl.2.1, yl.2.2, yls, .slice au nu cu]) F (by decide) rfl rfl fun w4 b3 a eb3 m3 B5 zb3 F => ?_
 have sB5 := B5.size
 have hB := bt hB B5
 have m2 := m2.old B5
 refine F.sg rfl fun a F => ?_
 refine s_end (K1 _ _ ?_)
 refine wp_seq_k fun _ K2 => ?_
 rcases (show xk ≠ yk ∨ (xk = yk ∧ (arT c.kd < 0 ∨ (c.len : Int) < arT c.kd) ∧ ¬ (arT d.kd < 0 ∨ (d.len : Int) < arT d.kd)) ∨ (xk = yk ∧ ¬ (arT c.kd < 0 ∨ (c.len : Int) < arT c.kd) ∧ (arT d.kd < 0 ∨ (d.len : Int) < arT d.kd)) ∨ (xk = yk ∧ (arT c.kd < 0 ∨ (c.len : Int) < arT c.kd) ∧ (arT d.kd < 0 ∨ (d.len : Int) < arT d.kd)) ∨ (xk = yk ∧ ¬ (arT c.kd < 0 ∨ (c.len : Int) < arT c.kd) ∧ ¬ (arT d.kd < 0 ∨ (d.len : Int) < arT d.kd)) by by_cases h1 : xk = yk <;> by_cases h2 : (arT c.kd < 0 ∨ (c.len : Int) < arT c.kd) <;> by_cases h3 : (arT d.kd < 0 ∨ (d.len : Int) < arT d.kd) <;> simp only [h1, h2, h3, ne_eq, not_true_eq_false, not_false_eq_true, true_and, and_true, false_and, and_false, or_true, true_or, or_false, false_or]) with hk | hk | hk | hk | hk
 ·
  skip
  refine dk2_seq (w4.heap.size) (w4.heap.size) (ops := regOps Try.f120 1) (N := 12) (by kernel_rfl) wide_orders (by kernel_rfl) fun w6 hw6 B7 hS K4 K4 => ?_
  have zw6 : w6.heap.size = w4.heap.size := by rw [hw6]
  have sB7 := B7.size
  have hB := bt hB B7
  have m2 := m2.old B7
  have m3 := m3.old B7
  have m2_d := m2
  have m3_d := m3
  have hB_d := hB
  refine F.dv 0 7 (.fieldAddr 27 (.tmp 2) 0) hS (fun W hW => x_fa0 fa27_0 rfl) fun a F => F.dv 1 8 (.load 3 (.tmp 7)) hS (fun W hW => x_load rfl (m_load flat3 ((m2_d.k2 hW (by omega)).cell (j := 0) rfl))) fun a F => F.dv 2 9 (.fieldAddr 27 (.tmp 3) 0) hS (fun W hW => x_fa0 fa27_0 rfl) fun a F => F.dv 3 10 (.load 3 (.tmp 9)) hS (fun W hW => x_load rfl (m_load flat3 ((m3_d.k2 hW (by omega)).cell (j := 0) rfl))) fun a F => F.dv 4 11 (.binOp .neq 3 (.tmp 8) (.tmp 10) 3) hS (fun W hW => neqT (by omega) rfl rfl) fun a F => F.dv 5 12 (.move (.tmp 11)) hS (fun W hW => x_move rfl) fun a F => d_skip 6 13 12 (j := 5) (want := false) (op := (.load 27 (.tmp 2))) F hS (by kernel_rfl) (by kernel_rfl) rfl (by kernel_rfl) (by decide) fun a F => d_skip 7 14 12 (j := 5) (want := false) (op := (.call (.mk (.value (.func 54)) #[(.tmp 13)] #[27]))) F hS (by kernel_rfl) (by kernel_rfl) rfl (by kernel_rfl) (by decide) fun a F => d_skip 8 15 12 (j := 5) (want := false) (op := (.load 27 (.tmp 3))) F hS (by kernel_rfl) (by kernel_rfl) rfl (by kernel_rfl) (by decide) fun a F => d_skip 9 16 12 (j := 5) (want := false) (op := (.call (.mk (.value (.func 54)) #[(.tmp 15)] #[27]))) F hS (by kernel_rfl) (by kernel_rfl) rfl (by kernel_rfl) (by decide) fun a F => d_skip 10 17 12 (j := 5) (want := false) (op := (.binOp .neq 4 (.tmp 14) (.tmp 16) 4)) F hS (by kernel_rfl) (by kernel_rfl) rfl (by kernel_rfl) (by decide) fun a F => F.dv 11 18 (.pick (.tmp 12) (.const (.bool true)) (.tmp 17)) hS (fun W hW => x_pick (b := true) rfl rfl) fun a F => ?_
  refine d_end (by kernel_rfl) (K4 _ _ ?_)
  refine wp_if F rfl ?_
  refine wp_rs fun _ K5 => F.sg rfl fun a F => ?_
  refine s_end (K5 _ _ ?_)
  refine wp_ret (then_ret (res_slot F rfl rfl ⟨_, rfl, ⟨false, rfl, fun h => absurd h (by decide), fun h => (hk (kd_same hx hy h)).elim⟩, hB⟩))
 ·
  skip
  refine dk2_seq (w4.heap.size) (w4.heap.size) (ops := regOps Try.f120 1) (N := 12) (by kernel_rfl) wide_orders (by kernel_rfl) fun w8 hw8 B9 hS K6 hK6 => ?_
  have zw8 : w8.heap.size = w4.heap.size := by rw [hw8]
  have sB9 := B9.size
  have hB := bt hB B9
  have m2 := m2.old B9
  have m3 := m3.old B9
  have m2_d := m2
  have m3_d := m3
  have hB_d := hB
  refine F.dv 0 7 (.fieldAddr 27 (.tmp 2) 0) hS (fun W hW => x_fa0 fa27_0 rfl) fun a F => F.dv 1 8 (.load 3 (.tmp 7)) hS (fun W hW => x_load rfl (m_load flat3 ((m2_d.k2 hW (by omega)).cell (j := 0) rfl))) fun a F => F.dv 2 9 (.fieldAddr 27 (.tmp 3) 0) hS (fun W hW => x_fa0 fa27_0 rfl) fun a F => F.dv 3 10 (.load 3 (.tmp 9)) hS (fun W hW => x_load rfl (m_load flat3 ((m3_d.k2 hW (by omega)).cell (j := 0) rfl))) fun a F => F.dv 4 11 (.binOp .neq 3 (.tmp 8) (.tmp 10) 3) hS (fun W hW => neqF (by omega) rfl rfl) fun a F => F.dv 5 12 (.move (.tmp 11)) hS (fun W hW => x_move rfl) fun a F => F.dg 6 13 12 5 false (.load 27 (.tmp 2)) hS rfl (fun W hW => x_ldW wide27 (m2_d.k2 hW (by omega)) rfl rfl) fun a F => F.dg 8 15 12 5 false (.load 27 (.tmp 3)) hS rfl (fun W hW => x_ldW wide27 (m3_d.k2 hW (by omega)) rfl rfl) fun a F => ?_
  refine d_oneg 7 12 (some 14) (.call (.mk (.value (.func 54)) #[(.tmp 13)] #[27])) (j := 5) (want := false) F (by kernel_rfl) (by kernel_rfl) (by kernel_rfl) rfl fun ty pos af => ?_
  refine s_callB [_] F E54 rfl (by decide) ((leaf70 c ⟨xk, xn, xs, xl, xls, .slice av nv cv⟩ _ w0 w8 hx).mono fun e w' h => ⟨by rw [h.1, decide_eq_true hk.2.1], h.2⟩) fun w10 a B11 F => ?_
  have sB11 := B11.size
  have hB := bt hB B11
  have hS := hS.below B11
  refine s_end ⟨hS, ?_⟩
  refine d_oneg 9 12 (some 16) (.call (.mk (.value (.func 54)) #[(.tmp 15)] #[27])) (j := 5) (want := false) F (by kernel_rfl) (by kernel_rfl) (by kernel_rfl) rfl fun ty pos af => ?_
  refine s_callB [_] F E54 rfl (by decide) ((leaf70 d ⟨yk, yn, ys, yl, yls, .slice au nu cu⟩ _ w0 w10 hy).mono fun e w' h => ⟨by rw [h.1, decide_eq_false hk.2.2], h.2⟩) fun w12 a B13 F => ?_
  have sB13 := B13.size
  have hB := bt hB B13
  have hS := hS.below B13
  refine s_end ⟨hS, ?_⟩
  refine F.dg 10 17 12 5 false (.binOp .neq 4 (.tmp 14) (.tmp 16) 4) hS rfl (fun W hW => x_neB (b := true) Try.underlying4 rfl rfl rfl) fun a F => F.dv 11 18 (.pick (.tmp 12) (.const (.bool true)) (.tmp 17)) hS (fun W hW => x_pick (b := false) rfl rfl) fun a F => ?_
  refine d_end (by kernel_rfl) (hK6 _ _ ?_)
  refine wp_if F rfl ?_
  refine wp_rs fun _ K7 => F.sg rfl fun a F => ?_
  refine s_end (K7 _ _ ?_)
  refine wp_ret (then_ret (res_slot F rfl rfl ⟨_, rfl, ⟨false, rfl, fun h => absurd h (by decide), fun h => by have := leaf_same hx hy h; omega⟩, hB⟩))
 ·
  skip
  refine dk2_seq (w4.heap.size) (w4.heap.size) (ops := regOps Try.f120 1) (N := 12) (by kernel_rfl) wide_orders (by kernel_rfl) fun w14 hw14 B15 hS K8 hK8 => ?_
  have zw14 : w14.heap.size = w4.heap.size := by rw [hw14]
  have sB15 := B15.size
  have hB := bt hB B15
  have m2 := m2.old B15
  have m3 := m3.old B15
  have m2_d := m2
  have m3_d := m3
  have hB_d := hB
  refine F.dv 0 7 (.fieldAddr 27 (.tmp 2) 0) hS (fun W hW => x_fa0 fa27_0 rfl) fun a F => F.dv 1 8 (.load 3 (.tmp 7)) hS (fun W hW => x_load rfl (m_load flat3 ((m2_d.k2 hW (by omega)).cell (j := 0) rfl))) fun a F => F.dv 2 9 (.fieldAddr 27 (.tmp 3) 0) hS (fun W hW => x_fa0 fa27_0 rfl) fun a F => F.dv 3 10 (.load 3 (.tmp 9)) hS (fun W hW => x_load rfl (m_load flat3 ((m3_d.k2 hW (by omega)).cell (j := 0) rfl))) fun a F => F.dv 4 11 (.binOp .neq 3 (.tmp 8) (.tmp 10) 3) hS (fun W hW => neqF (by omega) rfl rfl) fun a F => F.dv 5 12 (.move (.tmp 11)) hS (fun W hW => x_move rfl) fun a F => F.dg 6 13 12 5 false (.load 27 (.tmp 2)) hS rfl (fun W hW => x_ldW wide27 (m2_d.k2 hW (by omega)) rfl rfl) fun a F => F.dg 8 15 12 5 false (.load 27 (.tmp 3)) hS rfl (fun W hW => x_ldW wide27 (m3_d.k2 hW (by omega)) rfl rfl) fun a F => ?_
  refine d_oneg 7 12 (some 14) (.call (.mk (.value (.func 54)) #[(.tmp 13)] #[27])) (j := 5) (want := false) F (by kernel_rfl) (by kernel_rfl) (by kernel_rfl) rfl fun ty pos af => ?_
  refine s_callB [_] F E54 rfl (by decide) ((leaf70 c ⟨xk, xn, xs, xl, xls, .slice av nv cv⟩ _ w0 w14 hx).mono fun e w' h => ⟨by rw [h.1, decide_eq_false hk.2.1], h.2⟩) fun w16 a B17 F => ?_
  have sB17 := B17.size
  have hB := bt hB B17
  have hS := hS.below B17
  refine s_end ⟨hS, ?_⟩
  refine d_oneg 9 12 (some 16) (.call (.mk (.value (.func 54)) #[(.tmp 15)] #[27])) (j := 5) (want := false) F (by kernel_rfl) (by kernel_rfl) (by kernel_rfl) rfl fun ty pos af => ?_
  refine s_callB [_] F E54 rfl (by decide) ((leaf70 d ⟨yk, yn, ys, yl, yls, .slice au nu cu⟩ _ w0 w16 hy).mono fun e w' h => ⟨by rw [h.1, decide_eq_true hk.2.2], h.2⟩) fun w18 a B19 F => ?_
  have sB19 := B19.size
  have hB := bt hB B19
  have hS := hS.below B19
  refine s_end ⟨hS, ?_⟩
  refine F.dg 10 17 12 5 false (.binOp .neq 4 (.tmp 14) (.tmp 16) 4) hS rfl (fun W hW => x_neB (b := true) Try.underlying4 rfl rfl rfl) fun a F => F.dv 11 18 (.pick (.tmp 12) (.const (.bool true)) (.tmp 17)) hS (fun W hW => x_pick (b := false) rfl rfl) fun a F => ?_
  refine d_end (by kernel_rfl) (hK8 _ _ ?_)
  refine wp_if F rfl ?_
  refine wp_rs fun _ K9 => F.sg rfl fun a F => ?_
  refine s_end (K9 _ _ ?_)
  refine wp_ret (then_ret (res_slot F rfl rfl ⟨_, rfl, ⟨false, rfl, fun h => absurd h (by decide), fun h => by have := leaf_same hx hy h; omega⟩, hB⟩))
 ·
  skip
  refine dk2_seq (w4.heap.size) (w4.heap.size) (ops := regOps Try.f120 1) (N := 12) (by kernel_rfl) wide_orders (by kernel_rfl) fun w20 hw20 B21 hS K10 hK10 => ?_
  have zw20 : w20.heap.size = w4.heap.size := by rw [hw20]
  have sB21 := B21.size
  have hB := bt hB B21
  have m2 := m2.old B21
  have m3 := m3.old B21
  have m2_d := m2
  have m3_d := m3
  have hB_d := hB
  refine F.dv 0 7 (.fieldAddr 27 (.tmp 2) 0) hS (fun W hW => x_fa0 fa27_0 rfl) fun a F => F.dv 1 8 (.load 3 (.tmp 7)) hS (fun W hW => x_load rfl (m_load flat3 ((m2_d.k2 hW (by omega)).cell (j := 0) rfl))) fun a F => F.dv 2 9 (.fieldAddr 27 (.tmp 3) 0) hS (fun W hW => x_fa0 fa27_0 rfl) fun a F => F.dv 3 10 (.load 3 (.tmp 9)) hS (fun W hW => x_load rfl (m_load flat3 ((m3_d.k2 hW (by omega)).cell (j := 0) rfl))) fun a F => F.dv 4 11 (.binOp .neq 3 (.tmp 8) (.tmp 10) 3) hS (fun W hW => neqF (by omega) rfl rfl) fun a F => F.dv 5 12 (.move (.tmp 11)) hS (fun W hW => x_move rfl) fun a F => F.dg 6 13 12 5 false (.load 27 (.tmp 2)) hS rfl (fun W hW => x_ldW wide27 (m2_d.k2 hW (by omega)) rfl rfl) fun a F => F.dg 8 15 12 5 false (.load 27 (.tmp 3)) hS rfl (fun W hW => x_ldW wide27 (m3_d.k2 hW (by omega)) rfl rfl) fun a F => ?_
  refine d_oneg 7 12 (some 14) (.call (.mk (.value (.func 54)) #[(.tmp 13)] #[27])) (j := 5) (want := false) F (by kernel_rfl) (by kernel_rfl) (by kernel_rfl) rfl fun ty pos af => ?_
  refine s_callB [_] F E54 rfl (by decide) ((leaf70 c ⟨xk, xn, xs, xl, xls, .slice av nv cv⟩ _ w0 w20 hx).mono fun e w' h => ⟨by rw [h.1, decide_eq_true hk.2.1], h.2⟩) fun w22 a B23 F => ?_
  have sB23 := B23.size
  have hB := bt hB B23
  have m2 := m2.old B23
  have hS := hS.below B23
  refine s_end ⟨hS, ?_⟩
  refine d_oneg 9 12 (some 16) (.call (.mk (.value (.func 54)) #[(.tmp 15)] #[27])) (j := 5) (want := false) F (by kernel_rfl) (by kernel_rfl) (by kernel_rfl) rfl fun ty pos af => ?_
  refine s_callB [_] F E54 rfl (by decide) ((leaf70 d ⟨yk, yn, ys, yl, yls, .slice au nu cu⟩ _ w0 w22 hy).mono fun e w' h => ⟨by rw [h.1, decide_eq_true hk.2.2], h.2⟩) fun w24 a B25 F => ?_
  have sB25 := B25.size
  have hB := bt hB B25
  have m2 := m2.old B25
  have hS := hS.below B25
  refine s_end ⟨hS, ?_⟩
  refine F.dg 10 17 12 5 false (.binOp .neq 4 (.tmp 14) (.tmp 16) 4) hS rfl (fun W hW => x_neB (b := false) Try.underlying4 rfl rfl rfl) fun a F => F.dv 11 18 (.pick (.tmp 12) (.const (.bool true)) (.tmp 17)) hS (fun W hW => x_pick (b := false) rfl rfl) fun a F => ?_
  refine d_end (by kernel_rfl) (hK10 _ _ ?_)
  refine wp_if F rfl ?_
  refine wp_skip (K2 _ _ ?_)
  refine wp_seq_k fun _ K11 => ?_
  refine wp_rs fun _ K12 => F.vl (x_ldW wide27 m2 rfl rfl) fun a F => ?_
  refine s_callB [_] F E54 rfl (by decide) ((leaf70 c ⟨xk, xn, xs, xl, xls, .slice av nv cv⟩ _ w0 w24 hx).mono fun e w' h => ⟨by rw [h.1, decide_eq_true hk.2.1], h.2⟩) fun w26 a B27 F => ?_
  have sB27 := B27.size
  have hB := bt hB B27
  refine s_end (K12 _ _ ?_)
  refine wp_if F rfl ?_
  refine wp_rs fun _ K13 => F.sg rfl fun a F => ?_
  refine s_end (K13 _ _ ?_)
  obtain ⟨k1, m1_, rfl⟩ := leaf_odd hx hk.2.1
  obtain ⟨k2, m2_, rfl⟩ := leaf_odd hy hk.2.2
  have e1 : xk = k1 := hx.1
  have e2 : yk = k2 := hy.1
  refine wp_ret (then_ret (res_slot F rfl rfl ⟨_, rfl, ⟨true, rfl, fun _ => (show k1 = k2 by omega), fun _ => rfl⟩, hB⟩))
 ·
  skip
  refine dk2_seq (w4.heap.size) (w4.heap.size) (ops := regOps Try.f120 1) (N := 12) (by kernel_rfl) wide_orders (by kernel_rfl) fun w28 hw28 B29 hS K14 hK14 => ?_
  have zw28 : w28.heap.size = w4.heap.size := by rw [hw28]
  have sB29 := B29.size
  have hB := bt hB B29
  have m2 := m2.old B29
  have m3 := m3.old B29
  have m2_d := m2
  have m3_d := m3
  have hB_d := hB
  refine F.dv 0 7 (.fieldAddr 27 (.tmp 2) 0) hS (fun W hW => x_fa0 fa27_0 rfl) fun a F => F.dv 1 8 (.load 3 (.tmp 7)) hS (fun W hW => x_load rfl (m_load flat3 ((m2_d.k2 hW (by omega)).cell (j := 0) rfl))) fun a F => F.dv 2 9 (.fieldAddr 27 (.tmp 3) 0) hS (fun W hW => x_fa0 fa27_0 rfl) fun a F => F.dv 3 10 (.load 3 (.tmp 9)) hS (fun W hW => x_load rfl (m_load flat3 ((m3_d.k2 hW (by omega)).cell (j := 0) rfl))) fun a F => F.dv 4 11 (.binOp .neq 3 (.tmp 8) (.tmp 10) 3) hS (fun W hW => neqF (by omega) rfl rfl) fun a F => F.dv 5 12 (.move (.tmp 11)) hS (fun W hW => x_move rfl) fun a F => F.dg 6 13 12 5 false (.load 27 (.tmp 2)) hS rfl (fun W hW => x_ldW wide27 (m2_d.k2 hW (by omega)) rfl rfl) fun a F => F.dg 8 15 12 5 false (.load 27 (.tmp 3)) hS rfl (fun W hW => x_ldW wide27 (m3_d.k2 hW (by omega)) rfl rfl) fun a F => ?_
  refine d_oneg 7 12 (some 14) (.call (.mk (.value (.func 54)) #[(.tmp 13)] #[27])) (j := 5) (want := false) F (by kernel_rfl) (by kernel_rfl) (by kernel_rfl) rfl fun ty pos af => ?_
  refine s_callB [_] F E54 rfl (by decide) ((leaf70 c ⟨xk, xn, xs, xl, xls, .slice av nv cv⟩ _ w0 w28 hx).mono fun e w' h => ⟨by rw [h.1, decide_eq_false hk.2.1], h.2⟩) fun w30 a B31 F => ?_
  have sB31 := B31.size
  have hB := bt hB B31
  have m2 := m2.old B31
  have m3 := m3.old B31
  have hS := hS.below B31
  refine s_end ⟨hS, ?_⟩
  refine d_oneg 9 12 (some 16) (.call (.mk (.value (.func 54)) #[(.tmp 15)] #[27])) (j := 5) (want := false) F (by kernel_rfl) (by kernel_rfl) (by kernel_rfl) rfl fun ty pos af => ?_
  refine s_callB [_] F E54 rfl (by decide) ((leaf70 d ⟨yk, yn, ys, yl, yls, .slice au nu cu⟩ _ w0 w30 hy).mono fun e w' h => ⟨by rw [h.1, decide_eq_false hk.2.2], h.2⟩) fun w32 a B33 F => ?_
  have sB33 := B33.size
  have hB := bt hB B33
  have m2 := m2.old B33
  have m3 := m3.old B33
  have hS := hS.below B33
  refine s_end ⟨hS, ?_⟩
  refine F.dg 10 17 12 5 false (.binOp .neq 4 (.tmp 14) (.tmp 16) 4) hS rfl (fun W hW => x_neB (b := false) Try.underlying4 rfl rfl rfl) fun a F => F.dv 11 18 (.pick (.tmp 12) (.const (.bool true)) (.tmp 17)) hS (fun W hW => x_pick (b := false) rfl rfl) fun a F => ?_
  refine d_end (by kernel_rfl) (hK14 _ _ ?_)
  refine wp_if F rfl ?_
  refine wp_skip (K2 _ _ ?_)
  refine wp_seq_k fun _ K15 => ?_
  refine wp_rs fun _ K16 => F.vl (x_ldW wide27 m2 rfl rfl) fun a F => ?_
  refine s_callB [_] F E54 rfl (by decide) ((leaf70 c ⟨xk, xn, xs, xl, xls, .slice av nv cv⟩ _ w0 w32 hx).mono fun e w' h => ⟨by rw [h.1, decide_eq_false hk.2.1], h.2⟩) fun w34 a B35 F => ?_
  have sB35 := B35.size
  have hB := bt hB B35
  have m2 := m2.old B35
  have m3 := m3.old B35
  refine s_end (K16 _ _ ?_)
  refine wp_if F rfl ?_
  refine wp_skip (K15 _ _ ?_)
  refine wp_seq_k fun _ K17 => ?_
  refine wp_rs fun _ K18 => F.vl (x_fa0 fa27_0 rfl) fun a F => F.ld m2 flat3 rfl rfl fun a F => ?_
  refine s_end (K18 _ _ ?_)
  refine wp_block ?_
  rcases (show xk = 1 ∨ xk = 2 ∨ xk = 7 ∨ (xk ≠ 1 ∧ xk ≠ 2 ∧ xk ≠ 7) by omega) with hq | hq | hq | hq
  ·
   skip
   refine wp_rs fun _ K20 => F.vl (eqlT (by omega) rfl rfl) fun a F => F.sg rfl fun a F => ?_
   refine s_end (K20 _ _ ?_)
   refine wp_if F rfl ?_
   refine wp_rs fun _ K21 => F.vl (x_fa0 fa27_1 rfl) fun a F => F.ld m2 flat3 rfl rfl fun a F => F.vl (x_fa0 fa27_1 rfl) fun a F => F.ld m3 flat3 rfl rfl fun a F => F.vl (x_eql rfl rfl rfl) fun a F => F.sg rfl fun a F => ?_
   refine s_end (K21 _ _ ?_)
   obtain ⟨n1, m1_, rfl⟩ := hx.var_of hq
   obtain ⟨n2, m2_, rfl⟩ := hy.var_of (show yk = 1 by omega)
   have hn1 : xn = n1 := hx.2.1
   have hn2 : yn = n2 := hy.2.1
   refine wp_ret (inb_ret (then_ret (res_slot F rfl rfl ⟨_, rfl, ⟨_, rfl, by rw [decide_eq_true_iff, hn1, hn2]; rfl⟩, hB⟩)))
  ·
   obtain ⟨l, q1, rfl⟩ := hx.sort_of hq
   obtain ⟨l2, q2, rfl⟩ := hy.sort_of (show yk = 2 by omega)
   have hl1 : RLn w0 _ xl l := hx.2.1
   have hl2 : RLn w0 _ yl l2 := hy.2.1
   refine wp_rs fun _ K22 => F.vl (eqlF (by omega) rfl rfl) fun a F => F.sg rfl fun a F => ?_
   refine s_end (K22 _ _ ?_)
   refine wp_if F rfl ?_
   refine wp_rs fun _ K23 => F.vl (eqlT (by omega) rfl rfl) fun a F => F.sg rfl fun a F => ?_
   refine s_end (K23 _ _ ?_)
   refine wp_if F rfl ?_
   refine wp_rs fun _ K24 => F.vl (x_fa0 fa27_3 rfl) fun a F => F.vl (x_load rfl (m_loadP (vs := [_, _, _]) wide24 m2 rfl)) fun a F => F.vl (x_fa0 fa27_3 rfl) fun a F => F.vl (x_load rfl (m_loadP (vs := [_, _, _]) wide24 m3 rfl)) fun a F => ?_
   refine s_callR (R := fun v w' => ∃ b, v = .bool b ∧ (b = true ↔ eqO (slO l) (slO l2))) [_, _] F E151 rfl (by decide) ((rEqual24 xl yl l l2 w34 (hl1.keep hB.size (fun k hk _ => hB.block k hk)).rl (hl2.keep hB.size (fun k hk _ => hB.block k hk)).rl).mono fun e w' ⟨v, h1, ⟨b, h2, h4⟩, h5⟩ => ⟨v, h1, ⟨b, h2, h4.iff (hl1.keep hB.size (fun k hk _ => hB.block k hk)).rl (hl2.keep hB.size (fun k hk _ => hB.block k hk)).rl⟩, h5⟩) ?_
   rintro _ w36 a ⟨b36, rfl, h36⟩ B37 F
   have sB37 := B37.size
   have hB := bt hB B37
   refine F.sg rfl fun a F => ?_
   refine s_end (K24 _ _ ?_)
   refine wp_ret (inb_ret (then_ret (res_slot F rfl rfl ⟨_, rfl, ⟨_, rfl, h36⟩, hB⟩)))
  ·
   obtain ⟨s1, ls1, m1_, rfl⟩ := hx.cst_of hq
   obtain ⟨s2, ls2, m2_, rfl⟩ := hy.cst_of (show yk = 7 by omega)
   have hs1 : xs = s1 := hx.2.1
   have hs2 : ys = s2 := hy.2.1
   have hv1 : RVn w0 _ xls ls1 := hx.2.2.1
   have hv2 : RVn w0 _ yls ls2 := hy.2.2.1
   have hfl : ls1.length ≤ 9223372036854775807 := by have := hfit; simp only [CT.ess, PT.fit, List.length_map] at this; exact this
   obtain ⟨la, lca, hla, _⟩ := hv1.form
   obtain ⟨lb, lcb, hlb, _⟩ := hv2.form
   subst hla hlb
   refine wp_rs fun _ K25 => F.vl (eqlF (by omega) rfl rfl) fun a F => F.sg rfl fun a F => ?_
   refine s_end (K25 _ _ ?_)
   refine wp_if F rfl ?_
   refine wp_rs fun _ K26 => F.vl (eqlF (by omega) rfl rfl) fun a F => F.sg rfl fun a F => ?_
   refine s_end (K26 _ _ ?_)
   refine wp_if F rfl ?_
   refine wp_rs fun _ K27 => F.vl (eqlT (by omega) rfl rfl) fun a F => F.sg rfl fun a F => ?_
   refine s_end (K27 _ _ ?_)
   refine wp_if F rfl ?_
   refine wp_seq_k fun _ K28 => ?_
   rcases (show xs ≠ ys ∨ (xs = ys ∧ ls1.length ≠ ls2.length) ∨ (xs = ys ∧ ls1.length = ls2.length) by by_cases h : xs = ys <;> by_cases h2 : ls1.length = ls2.length <;> simp [h, h2]) with hst | hst | hst
   ·
    skip
    refine wp_rs fun _ K30 => F.vl (x_fa0 fa27_2 rfl) fun a F => F.ld m2 flat9 rfl rfl fun a F => F.vl (x_fa0 fa27_2 rfl) fun a F => F.ld m3 flat9 rfl rfl fun a F => F.vl (x_neS (b := true) (decide_eq_true hst) rfl rfl) fun a F => F.mv rfl fun a F => s_grdn 44 F rfl rfl (by decide) fun a F => s_grdn 44 F rfl rfl (by decide) fun a F => s_grdn 44 F rfl rfl (by decide) fun a F => s_grdn 44 F rfl rfl (by decide) fun a F => s_grdn 44 F rfl rfl (by decide) fun a F => s_grdn 44 F rfl rfl (by decide) fun a F => s_grdn 44 F rfl rfl (by decide) fun a F => F.vl (x_pick (b := true) rfl rfl) fun a F => ?_
    refine s_end (K30 _ _ ?_)
    refine wp_if F rfl ?_
    refine wp_rs fun _ K31 => F.sg rfl fun a F => ?_
    refine s_end (K31 _ _ ?_)
    refine wp_ret (then_ret (inb_ret (then_ret (res_slot F rfl rfl ⟨_, rfl, ⟨false, rfl, fun h => absurd h (by decide), fun h => (hst (by rw [hs1, hs2]; exact h.1)).elim⟩, hB⟩))))
   ·
    skip
    refine wp_rs fun _ K32 => F.vl (x_fa0 fa27_2 rfl) fun a F => F.ld m2 flat9 rfl rfl fun a F => F.vl (x_fa0 fa27_2 rfl) fun a F => F.ld m3 flat9 rfl rfl fun a F => F.vl (x_neS (b := false) (decide_eq_false (fun h => h hst.1)) rfl rfl) fun a F => F.mv rfl fun a F => s_grd 44 F rfl rfl rfl <| F.vl (x_fa0 fa27_4 rfl) fun a F => s_grd 44 F rfl rfl rfl <| F.ld m2 flat22 rfl rfl fun a F => s_grd 44 F rfl rfl rfl <| F.vl (x_len Try.underlying22 rfl) fun a F => s_grd 44 F rfl rfl rfl <| F.vl (x_fa0 fa27_4 rfl) fun a F => s_grd 44 F rfl rfl rfl <| F.ld m3 flat22 rfl rfl fun a F => s_grd 44 F rfl rfl rfl <| F.vl (x_len Try.underlying22 rfl) fun a F => s_grd 44 F rfl rfl rfl <| F.vl (neqT (by omega) rfl rfl) fun a F => F.vl (x_pick (b := false) rfl rfl) fun a F => ?_
    refine s_end (K32 _ _ ?_)
    refine wp_if F rfl ?_
    refine wp_rs fun _ K33 => F.sg rfl fun a F => ?_
    refine s_end (K33 _ _ ?_)
    refine wp_ret (then_ret (inb_ret (then_ret (res_slot F rfl rfl ⟨_, rfl, ⟨false, rfl, fun h => absurd h (by decide), fun h => (hst.2 (by have := h.2.1; simpa using this)).elim⟩, hB⟩))))
   ·
    skip
    refine wp_rs fun _ K34 => F.vl (x_fa0 fa27_2 rfl) fun a F => F.ld m2 flat9 rfl rfl fun a F => F.vl (x_fa0 fa27_2 rfl) fun a F => F.ld m3 flat9 rfl rfl fun a F => F.vl (x_neS (b := false) (decide_eq_false (fun h => h hst.1)) rfl rfl) fun a F => F.mv rfl fun a F => s_grd 44 F rfl rfl rfl <| F.vl (x_fa0 fa27_4 rfl) fun a F => s_grd 44 F rfl rfl rfl <| F.ld m2 flat22 rfl rfl fun a F => s_grd 44 F rfl rfl rfl <| F.vl (x_len Try.underlying22 rfl) fun a F => s_grd 44 F rfl rfl rfl <| F.vl (x_fa0 fa27_4 rfl) fun a F => s_grd 44 F rfl rfl rfl <| F.ld m3 flat22 rfl rfl fun a F => s_grd 44 F rfl rfl rfl <| F.vl (x_len Try.underlying22 rfl) fun a F => s_grd 44 F rfl rfl rfl <| F.vl (neqF (by omega) rfl rfl) fun a F => F.vl (x_pick (b := false) rfl rfl) fun a F => ?_
    refine s_end (K34 _ _ ?_)
    refine wp_if F rfl ?_
    refine wp_skip (K28 _ _ ?_)
    refine wp_seq_k fun _ K35 => ?_
    refine wp_rs fun _ K36 => F.vl (x_fa0 fa27_4 rfl) fun a F => F.ld m2 flat22 rfl rfl fun a F => F.vl (x_len Try.underlying22 rfl) fun a F => F.mv rfl fun a F => ?_
    refine s_end (K36 _ _ ?_)
    refine wp_block ?_
    refine wp_up ls1.length (fun i a w => (∀ (j : Nat) p q, j < i → ls1[j]? = some p → ls2[j]? = some q → eqO (slO p) (slO q)) ∧ Blk w b2 27 [.int .i64 xk, .int .i64 xn, .string xs, .int .i64 xl.1, .int .i64 xl.2.1, xl.2.2, .slice la ls1.length lca, .slice av nv cv] ∧ Blk w b3 27 [.int .i64 yk, .int .i64 yn, .string ys, .int .i64 yl.1, .int .i64 yl.2.1, yl.2.2, .slice lb ls2.length lcb, .slice au nu cu] ∧ Below w0.heap.size w0 w ∧ Fs 91 a [(2, .pointer (some ⟨b2, 0, none⟩)), (3, .pointer (some ⟨b3, 0, none⟩)), (55, .int .i64 (ls1.length : Int)), (56, .int .i64 (i : Int))]) ⟨(fun j p q h => absurd h (by omega)), m2, m3, hB, F.sub _ rfl⟩ ?_
    repeat clear F
    clear hB m2 m3
    rintro i a w hi ⟨hok, m2, m3, hB, F⟩ K' hK'
    have sB := hB.size
    have l2_ := m2.lt
    have l3_ := m3.lt
    refine wp_rs fun _ K37 => F.vl (x_lss (b := decide (i < ls1.length)) (decide_eq_decide.2 (by omega)) rfl rfl) fun a F => ?_
    refine s_end (K37 _ _ ?_)
    refine wp_seq_k fun _ K38 => ?_
    refine wp_iff F rfl (fun hc57 => ?_) (fun hc57 => ?_)
    ·
     obtain ⟨b9, off9, c9, x9, p, hve, hp, hrx, hAb, hbl, hrow⟩ := hv1.row (i := i) (by omega)
     obtain ⟨b8, off8, c8, y9, q, hue, hq9, hry, hAb8, hbl8, hrow8⟩ := hv2.row (i := i) (by omega)
     cases hve
     cases hue
     refine wp_skip (K38 _ _ ?_)
     refine wp_seq_k fun _ K39 => ?_
     refine wp_block ?_
     refine wp_rs fun _ K40 => F.mv rfl fun a F => F.sg rfl fun a F => ?_
     refine s_end (K40 _ _ ?_)
     refine dk2_seq (w.heap.size) (w.heap.size) (ops := regOps Try.f120 16) (N := 12) (by kernel_rfl) wide_orders (by kernel_rfl) fun w38 hw38 B39 hS K41 hK41 => ?_
     have zw38 : w38.heap.size = w.heap.size := by rw [hw38]
     have sB39 := B39.size
     have hB := bt hB B39
     have m2 := m2.old B39
     have m3 := m3.old B39
     have m2_d := m2
     have m3_d := m3
     have hB_d := hB
     refine F.dv 0 59 (.fieldAddr 27 (.tmp 2) 4) hS (fun W hW => x_fa0 fa27_4 rfl) fun a F => F.dv 1 60 (.load 22 (.tmp 59)) hS (fun W hW => x_load rfl (m_load flat22 ((m2_d.k2 hW (by omega)).cell (j := 6) rfl))) fun a F => F.dv 2 61 (.move (.tmp 5)) hS (fun W hW => x_move rfl) fun a F => F.dv 3 62 (.indexAddr 22 (.tmp 60) (.tmp 61)) hS (fun W hW => x_ixa rfl rfl (m_ixsK i Try.underlying22 el22.size rfl (by omega))) fun a F => F.dv 4 63 (.load 24 (.tmp 62)) hS (fun W hW => x_ldA wide24 (hrow _ ((hW.under hB_d (by omega)).block _ hbl)) rfl rfl) fun a F => F.dv 5 64 (.fieldAddr 27 (.tmp 3) 4) hS (fun W hW => x_fa0 fa27_4 rfl) fun a F => F.dv 6 65 (.load 22 (.tmp 64)) hS (fun W hW => x_load rfl (m_load flat22 ((m3_d.k2 hW (by omega)).cell (j := 6) rfl))) fun a F => F.dv 7 66 (.move (.tmp 5)) hS (fun W hW => x_move rfl) fun a F => F.dv 8 67 (.indexAddr 22 (.tmp 65) (.tmp 66)) hS (fun W hW => x_ixa rfl rfl (m_ixsK i Try.underlying22 el22.size rfl (by omega))) fun a F => F.dv 9 68 (.load 24 (.tmp 67)) hS (fun W hW => x_ldA wide24 (hrow8 _ ((hW.under hB_d (by omega)).block _ hbl8)) rfl rfl) fun a F => ?_
     refine d1 10 (some 69) (.call (.mk (.value (.func 151)) #[(.tmp 63), (.tmp 68)] #[24, 24])) fun ty pos af => ?_
     refine s_callR (R := fun v w' => ∃ b, v = .bool b ∧ (b = true ↔ eqO (slO p) (slO q))) [_, _] F E151 rfl (by decide) ((rEqual24 x9 y9 p q w38 (hrx.keep hB.size (fun k hk _ => hB.block k hk)).rl (hry.keep hB.size (fun k hk _ => hB.block k hk)).rl).mono fun e w' ⟨v, h1, ⟨b, h2, h4⟩, h5⟩ => ⟨v, h1, ⟨b, h2, h4.iff (hrx.keep hB.size (fun k hk _ => hB.block k hk)).rl (hry.keep hB.size (fun k hk _ => hB.block k hk)).rl⟩, h5⟩) ?_
     rintro _ w40 a ⟨b69, rfl, h69⟩ B41 F
     have sB41 := B41.size
     have hB := bt hB B41
     have m2 := m2.old B41
     have m3 := m3.old B41
     have hS := hS.below B41
     refine s_end ⟨hS, ?_⟩
     refine F.dv 11 70 (.unOp .not 4 (.tmp 69)) hS (fun W hW => x_not rfl) fun a F => ?_
     refine d_end (by kernel_rfl) (hK41 _ _ ?_)
     refine wp_ifb F rfl (fun hc70 => ?_) (fun hc70 => ?_)
     ·
      have hn69 : ¬ eqO (slO p) (slO q) := fun h => by have := h69.2 h; subst this; simp at hc70
      refine wp_rs fun _ K42 => F.sg rfl fun a F => ?_
      refine s_end (K42 _ _ ?_)
      refine wp_ret (inb_ret (then_ret (then_ret (inb_ret (then_ret (inb_ret (then_ret (res_slot F rfl rfl ⟨_, rfl, ⟨false, rfl, fun h => absurd h (by decide), fun h => (hn69 (h.2.2 i (slO p) (slO q) (by rw [List.getElem?_map, hp]; rfl) (by rw [List.getElem?_map, hq9]; rfl))).elim⟩, hB⟩))))))))
     ·
      obtain rfl : b69 = true := by simpa using hc70
      have h30 := h69.1 rfl
      refine wp_skip (K39 _ _ ?_)
      refine wp_region_lit ?_
      refine F.vl (x_addn (i + 1) (by omega) (by omega) rfl rfl) fun a F => F.mv rfl fun a F => ?_
      refine s_end (hK' _ _ (by omega) ⟨(fun j p' q' hj e1 e2 => by rcases Nat.lt_or_ge j i with h | h; (· exact hok j p' q' h e1 e2); (· obtain rfl : j = i := (by omega); rw [hp] at e1; rw [hq9] at e2; cases e1; cases e2; exact h30)), m2, m3, hB, F.sub _ rfl⟩)
    ·
     obtain rfl : i = ls1.length := by omega
     refine wp_exit (K35 _ _ ?_)
     refine wp_rs fun _ K43 => F.sg rfl fun a F => ?_
     refine s_end (K43 _ _ ?_)
     refine wp_ret (inb_ret (then_ret (res_slot F rfl rfl ⟨_, rfl, ⟨true, rfl, fun _ => ⟨by rw [← hs1, ← hs2]; exact hst.1, by simpa using hst.2, fun j o1 o2 e1 e2 => (by rw [List.getElem?_map] at e1 e2; obtain ⟨q1, e3, rfl⟩ := Option.map_eq_some_iff.1 e1; obtain ⟨q2, e4, rfl⟩ := Option.map_eq_some_iff.1 e2; exact hok j q1 q2 (List.getElem?_eq_some_iff.1 e3).1 e3 e4)⟩, fun _ => rfl⟩, hB⟩)))
  ·
   have hl1 : (c.kids.length : Int) = arT c.kd := by omega
   have hl2 : (d.kids.length : Int) = arT d.kd := by omega
   have hlq : c.kids.length = d.kids.length := by rw [← hkx] at hl1; rw [← hky] at hl2; rw [hk.1] at hl1; omega
   refine wp_rs fun _ K44 => F.vl (eqlF (by omega) rfl rfl) fun a F => F.sg rfl fun a F => ?_
   refine s_end (K44 _ _ ?_)
   refine wp_if F rfl ?_
   refine wp_rs fun _ K45 => F.vl (eqlF (by omega) rfl rfl) fun a F => F.sg rfl fun a F => ?_
   refine s_end (K45 _ _ ?_)
   refine wp_if F rfl ?_
   refine wp_rs fun _ K46 => F.vl (eqlF (by omega) rfl rfl) fun a F => F.sg rfl fun a F => ?_
   refine s_end (K46 _ _ ?_)
   refine wp_if F rfl ?_
   refine wp_skip (K17 _ _ ?_)
   refine wp_seq_k fun _ K47 => ?_
   refine wp_rs fun _ K48 => F.vl (x_fa0 fa27_0 rfl) fun a F => F.ld m2 flat3 rfl rfl fun a F => ?_
   refine s_callS [_] F E82 rfl (by decide) ((kids54 xk w34).mono fun e w' h => ⟨(by rw [h.1, hkx, ← hl1] : e = .returned (.int .i64 (c.kids.length : Int))), h.2⟩) fun a F => ?_
   refine F.mv rfl fun a F => ?_
   refine s_end (K48 _ _ ?_)
   refine wp_block ?_
   refine wp_up c.kids.length (fun i a w => (∀ (j : Nat) p q, j < i → c.kids[j]? = some p → d.kids[j]? = some q → sameP p.ess q.ess) ∧ Blk w b2 27 [.int .i64 xk, .int .i64 xn, .string xs, .int .i64 xl.1, .int .i64 xl.2.1, xl.2.2, xls, .slice av nv cv] ∧ Blk w b3 27 [.int .i64 yk, .int .i64 yn, .string ys, .int .i64 yl.1, .int .i64 yl.2.1, yl.2.2, yls, .slice au nu cu] ∧ Below w0.heap.size w0 w ∧ Fs 91 a [(2, .pointer (some ⟨b2, 0, none⟩)), (3, .pointer (some ⟨b3, 0, none⟩)), (74, .int .i64 (c.kids.length : Int)), (75, .int .i64 (i : Int))]) ⟨(fun j p q h => absurd h (by omega)), m2, m3, hB, F.sub _ rfl⟩ ?_
   repeat clear F
   clear hB m2 m3
   rintro i a w hi ⟨hok, m2, m3, hB, F⟩ K' hK'
   have sB := hB.size
   have l2_ := m2.lt
   have l3_ := m3.lt
   refine wp_rs fun _ K49 => F.vl (x_lss (b := decide (i < c.kids.length)) (decide_eq_decide.2 (by omega)) rfl rfl) fun a F => ?_
   refine s_end (K49 _ _ ?_)
   refine wp_seq_k fun _ K50 => ?_
   refine wp_iff F rfl (fun hc76 => ?_) (fun hc76 => ?_)
   ·
    obtain ⟨b9, off9, c9, x9, p, hve, hp, hrx, hAb, hbl, hrow⟩ := hkid.row (i := i) (by omega)
    obtain ⟨b8, off8, c8, y9, q, hue, hq9, hry, hAb8, hbl8, hrow8⟩ := hkid8.row (i := i) (by omega)
    cases hve
    cases hue
    refine wp_skip (K50 _ _ ?_)
    refine wp_seq_k fun _ K51 => ?_
    refine wp_block ?_
    refine wp_rs fun _ K52 => F.mv rfl fun a F => F.sg rfl fun a F => ?_
    refine s_end (K52 _ _ ?_)
    refine dk2_seq (w.heap.size) (w.heap.size) (ops := regOps Try.f120 23) (N := 12) (by kernel_rfl) wide_orders (by kernel_rfl) fun w42 hw42 B43 hS K53 hK53 => ?_
    have zw42 : w42.heap.size = w.heap.size := by rw [hw42]
    have sB43 := B43.size
    have hB := bt hB B43
    have m2 := m2.old B43
    have m3 := m3.old B43
    have m2_d := m2
    have m3_d := m3
    have hB_d := hB
    refine F.dv 0 78 (.fieldAddr 27 (.tmp 2) 5) hS (fun W hW => x_fa0 fa27_5 rfl) fun a F => F.dv 1 79 (.load 25 (.tmp 78)) hS (fun W hW => x_load rfl (m_load flat25 ((m2_d.k2 hW (by omega)).cell (j := 7) rfl))) fun a F => F.dv 2 80 (.move (.tmp 6)) hS (fun W hW => x_move rfl) fun a F => F.dv 3 81 (.indexAddr 25 (.tmp 79) (.tmp 80)) hS (fun W hW => x_ixa rfl rfl (m_ixsK i Try.underlying25 el25.size rfl (by omega))) fun a F => F.dv 4 82 (.load 27 (.tmp 81)) hS (fun W hW => x_ldA wide27 (hrow _ ((hW.under hB_d (by omega)).block _ hbl)) rfl rfl) fun a F => F.dv 5 83 (.fieldAddr 27 (.tmp 3) 5) hS (fun W hW => x_fa0 fa27_5 rfl) fun a F => F.dv 6 84 (.load 25 (.tmp 83)) hS (fun W hW => x_load rfl (m_load flat25 ((m3_d.k2 hW (by omega)).cell (j := 7) rfl))) fun a F => F.dv 7 85 (.move (.tmp 6)) hS (fun W hW => x_move rfl) fun a F => F.dv 8 86 (.indexAddr 25 (.tmp 84) (.tmp 85)) hS (fun W hW => x_ixa rfl rfl (m_ixsK i Try.underlying25 el25.size rfl (by omega))) fun a F => F.dv 9 87 (.load 27 (.tmp 86)) hS (fun W hW => x_ldA wide27 (hrow8 _ ((hW.under hB_d (by omega)).block _ hbl8)) rfl rfl) fun a F => ?_
    refine d1 10 (some 88) (.call (.mk (.value (.func 120)) #[(.tmp 82), (.tmp 87)] #[27, 27])) fun ty pos af => ?_
    refine s_callR (R := fun v w' => ∃ b, v = .bool b ∧ (b = true ↔ sameP p.ess q.ess)) [_, _] F E120 rfl (by decide) (ih p q x9 y9 w42 (by have := CT.kid_size hp; omega) (hrx.bel hB) (hry.bel hB) (PT.fit_kid hfit hp)) ?_
    rintro _ w44 a ⟨b88, rfl, h88⟩ B45 F
    have sB45 := B45.size
    have hB := bt hB B45
    have m2 := m2.old B45
    have m3 := m3.old B45
    have hS := hS.below B45
    refine s_end ⟨hS, ?_⟩
    refine F.dv 11 89 (.unOp .not 4 (.tmp 88)) hS (fun W hW => x_not rfl) fun a F => ?_
    refine d_end (by kernel_rfl) (hK53 _ _ ?_)
    refine wp_ifb F rfl (fun hc89 => ?_) (fun hc89 => ?_)
    ·
     have hn88 : ¬ sameP p.ess q.ess := fun h => by have := h88.2 h; subst this; simp at hc89
     refine wp_rs fun _ K54 => F.sg rfl fun a F => ?_
     refine s_end (K54 _ _ ?_)
     refine wp_ret (inb_ret (then_ret (then_ret (inb_ret (then_ret (res_slot F rfl rfl ⟨_, rfl, ⟨false, rfl, fun h => absurd h (by decide), fun h => (hn88 (((same_rest hx hy hk.1 hq).1 h).2 i p q hp hq9)).elim⟩, hB⟩))))))
    ·
     obtain rfl : b88 = true := by simpa using hc89
     have h30 := h88.1 rfl
     refine wp_skip (K51 _ _ ?_)
     refine wp_region_lit ?_
     refine F.vl (x_addn (i + 1) (by omega) (by omega) rfl rfl) fun a F => F.mv rfl fun a F => ?_
     refine s_end (hK' _ _ (by omega) ⟨(fun j p' q' hj e1 e2 => by rcases Nat.lt_or_ge j i with h | h; (· exact hok j p' q' h e1 e2); (· obtain rfl : j = i := (by omega); rw [hp] at e1; rw [hq9] at e2; cases e1; cases e2; exact h30)), m2, m3, hB, F.sub _ rfl⟩)
   ·
    obtain rfl : i = c.kids.length := by omega
    refine wp_exit (K47 _ _ ?_)
    refine wp_rs fun _ K55 => F.sg rfl fun a F => ?_
    refine s_end (K55 _ _ ?_)
    refine wp_ret (res_slot F rfl rfl ⟨_, rfl, ⟨true, rfl, fun _ => (same_rest hx hy hk.1 hq).2 ⟨hlq, fun j p q e1 e2 => hok j p q (List.getElem?_eq_some_iff.1 e1).1 e1 e2⟩, fun _ => rfl⟩, hB⟩)
theorem rSame41 (c d : CT) (x y : C8) (w0 : World) (hx : RC w0 (fun k => k < w0.heap.size) c x) (hy : RC w0 (fun k => k < w0.heap.size) d y) (hfit : c.ess.fit) : Calls Try.prog 81 #[tv x, tv y] w0 fun e w' => ∃ z, e = .returned z ∧ (∃ b, z = .bool b ∧ (b = true ↔ c.ok ∧ d.ok ∧ sameP c.ess d.ess)) ∧ Below w0.heap.size w0 w' := by
 have hB := Below.refl w0.heap.size w0
 have sB := hB.size
 refine calls_fs 18 [(0, tv x), (1, tv y)] Try.func81 rfl rfl rfl rfl rfl fun a F => ?_
 refine wp_rs fun _ K1 => ?_
 refine s_box (tc x) F (by decide) rfl rfl fun w2 b2 a eb2 m2 B3 zb2 F => ?_
 have sB3 := B3.size
 have hB := bt hB B3
 refine s_box (tc y) F (by decide) rfl rfl fun w4 b3 a eb3 m3 B5 zb3 F => ?_
 have sB5 := B5.size
 have hB := bt hB B5
 have m2 := m2.old B5
 refine F.sg rfl fun a F => ?_
 refine s_end (K1 _ _ ?_)
 rcases (show ¬ c.ok ∨ (c.ok ∧ ¬ d.ok) ∨ (c.ok ∧ d.ok) by by_cases h : c.ok <;> by_cases h2 : d.ok <;> simp [h, h2]) with hk1 | ⟨hk1, hk2⟩ | ⟨hk1, hk2⟩
 ·
  skip
  refine wp_rs fun _ K3 => F.vl (x_ldW wide27 m2 rfl rfl) fun a F => ?_
  refine s_callB [_] F E8 rfl (by decide) ((TooGreat14 c x w4 (hx.bel hB)).mono fun e w' h => ⟨by rw [h.1, decide_eq_true hk1], h.2⟩) fun w6 a B7 F => ?_
  have sB7 := B7.size
  have hB := bt hB B7
  refine F.vl (x_not rfl) fun a F => F.mv rfl fun a F => s_grdn 8 F rfl rfl (by decide) fun a F => s_grdn 8 F rfl rfl (by decide) fun a F => s_grdn 8 F rfl rfl (by decide) fun a F => F.vl (x_pick (b := false) rfl rfl) fun a F => F.mv rfl fun a F => s_grdn 13 F rfl rfl (by decide) fun a F => s_grdn 13 F rfl rfl (by decide) fun a F => s_grdn 13 F rfl rfl (by decide) fun a F => F.vl (x_pick (b := false) rfl rfl) fun a F => F.sg rfl fun a F => ?_
  refine s_end (K3 _ _ ?_)
  refine wp_ret (res_slot F rfl rfl ⟨_, rfl, ⟨false, rfl, fun h => absurd h (by decide), fun h => (hk1 h.1).elim⟩, hB⟩)
 ·
  skip
  refine wp_rs fun _ K4 => F.vl (x_ldW wide27 m2 rfl rfl) fun a F => ?_
  refine s_callB [_] F E8 rfl (by decide) ((TooGreat14 c x w4 (hx.bel hB)).mono fun e w' h => ⟨by rw [h.1, decide_eq_false (fun h => h hk1)], h.2⟩) fun w8 a B9 F => ?_
  have sB9 := B9.size
  have hB := bt hB B9
  have m3 := m3.old B9
  refine F.vl (x_not rfl) fun a F => F.mv rfl fun a F => s_grd 8 F rfl rfl rfl <| F.vl (x_ldW wide27 m3 rfl rfl) fun a F => s_grd 8 F rfl rfl rfl ?_
  refine s_callB [_] F E8 rfl (by decide) ((TooGreat14 d y w8 (hy.bel hB)).mono fun e w' h => ⟨by rw [h.1, decide_eq_true hk2], h.2⟩) fun w10 a B11 F => ?_
  have sB11 := B11.size
  have hB := bt hB B11
  refine s_grd 8 F rfl rfl rfl <| F.vl (x_not rfl) fun a F => F.vl (x_pick (b := true) rfl rfl) fun a F => F.mv rfl fun a F => s_grdn 13 F rfl rfl (by decide) fun a F => s_grdn 13 F rfl rfl (by decide) fun a F => s_grdn 13 F rfl rfl (by decide) fun a F => F.vl (x_pick (b := false) rfl rfl) fun a F => F.sg rfl fun a F => ?_
  refine s_end (K4 _ _ ?_)
  refine wp_ret (res_slot F rfl rfl ⟨_, rfl, ⟨false, rfl, fun h => absurd h (by decide), fun h => (hk2 h.2.1).elim⟩, hB⟩)
 ·
  skip
  refine wp_rs fun _ K5 => F.vl (x_ldW wide27 m2 rfl rfl) fun a F => ?_
  refine s_callB [_] F E8 rfl (by decide) ((TooGreat14 c x w4 (hx.bel hB)).mono fun e w' h => ⟨by rw [h.1, decide_eq_false (fun h => h hk1)], h.2⟩) fun w12 a B13 F => ?_
  have sB13 := B13.size
  have hB := bt hB B13
  have m2 := m2.old B13
  have m3 := m3.old B13
  refine F.vl (x_not rfl) fun a F => F.mv rfl fun a F => s_grd 8 F rfl rfl rfl <| F.vl (x_ldW wide27 m3 rfl rfl) fun a F => s_grd 8 F rfl rfl rfl ?_
  refine s_callB [_] F E8 rfl (by decide) ((TooGreat14 d y w12 (hy.bel hB)).mono fun e w' h => ⟨by rw [h.1, decide_eq_false (fun h => h hk2)], h.2⟩) fun w14 a B15 F => ?_
  have sB15 := B15.size
  have hB := bt hB B15
  have m2 := m2.old B15
  have m3 := m3.old B15
  refine s_grd 8 F rfl rfl rfl <| F.vl (x_not rfl) fun a F => F.vl (x_pick (b := true) rfl rfl) fun a F => F.mv rfl fun a F => s_grd 13 F rfl rfl rfl <| F.vl (x_ldW wide27 m2 rfl rfl) fun a F => s_grd 13 F rfl rfl rfl <| F.vl (x_ldW wide27 m3 rfl rfl) fun a F => s_grd 13 F rfl rfl rfl ?_
  refine s_callR (R := fun v w' => ∃ b, v = .bool b ∧ (b = true ↔ sameP c.ess d.ess)) [_, _] F E120 rfl (by decide) (rsame82 (c.size + 1) c d x y w14 (by omega) (hx.bel hB) (hy.bel hB) hfit) ?_
  rintro _ w16 a ⟨b16, rfl, h16⟩ B17 F
  have sB17 := B17.size
  have hB := bt hB B17
  refine F.vl (x_pick (b := true) rfl rfl) fun a F => F.sg rfl fun a F => ?_
  refine s_end (K5 _ _ ?_)
  refine wp_ret (res_slot F rfl rfl ⟨_, rfl, ⟨_, rfl, by rw [h16]; exact ⟨fun h => ⟨hk1, hk2, h⟩, fun h => h.2.2⟩⟩, hB⟩)
end Go.Proofs.Ytmkjhdiepkpdoaa
