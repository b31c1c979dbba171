/- Same. -/
import Derived.Test.YtgpciphjhnabcaaTerm17
import Derived.Test.YtgpciphjhnabcaaLev6
namespace Go.Proofs.Ytgpciphjhnabcaa
open Go.RowKit Go.Shelf
set_option linter.unusedVariables false
set_option linter.unusedSimpArgs false

def eqO : Option SL → Option SL → Prop
  | some s, some t => eqF s t
  | _, _ => False
def eqOs (os ps : List (Option SL)) : Prop := os.length = ps.length ∧ ∀ (i : Nat) o p, os[i]? = some o → ps[i]? = some p → eqO o p
def sameP : PT → PT → Prop
  | .var n, .var m => n = m
  | .sort o, .sort p => eqO o p
  | .cst s os, .cst t ps => s = t ∧ eqOs os ps
  | .odd k, .odd j => k = j
  | .two k a b, .two j c d => k = j ∧ sameP a c ∧ sameP b d
  | .lt a b c, .lt d e f => sameP a d ∧ sameP b e ∧ sameP c f
  | _, _ => False
def PT.fit : PT → Prop
  | .cst _ os => os.length ≤ 9223372036854775807
  | .two _ a b => a.fit ∧ b.fit
  | .lt a b c => a.fit ∧ b.fit ∧ c.fit
  | _ => True
theorem CT.fit_ess : ∀ {c : CT}, c.fit → c.ess.fit
  | .two _ a b _, h => ⟨CT.fit_ess h.1, CT.fit_ess h.2⟩
  | .lt a b c _, h => ⟨CT.fit_ess h.1, CT.fit_ess h.2.1, CT.fit_ess h.2.2⟩
  | .cst s ls _, h => by simp only [CT.ess, PT.fit, List.length_map]; exact h.2
  | .var .., _ => trivial
  | .sort .., _ => trivial
  | .odd .., _ => trivial
theorem PT.fit_kid {c k : CT} {i : Nat} (h : c.ess.fit) (hk : c.kids[i]? = some k) : k.ess.fit := by
  cases c with
  | two _ a b _ =>
    rcases i with _ | _ | i
    · simp [CT.kids] at hk; subst hk; exact h.1
    · simp [CT.kids] at hk; subst hk; exact h.2
    · simp [CT.kids] at hk
  | lt a b c _ =>
    rcases i with _ | _ | _ | i
    · simp [CT.kids] at hk; subst hk; exact h.1
    · simp [CT.kids] at hk; subst hk; exact h.2.1
    · simp [CT.kids] at hk; subst hk; exact h.2.2
    · simp [CT.kids] at hk
  | _ => simp [CT.kids] at hk
theorem TB.iff {w0 : World} {x y : C3} {la lb : Lv} {b : Bool} (h : TB w0 x y la lb eqF b) (hx : RL w0 x la) (hy : RL w0 y lb) : b = true ↔ eqO (slO la) (slO lb) := by
  by_cases ha : sndL la
  · by_cases hb : sndL lb
    · obtain ⟨s, h1, h2⟩ := sound_sl hx ha
      obtain ⟨t, h3, h4⟩ := sound_sl hy hb
      rw [h.2 s t h1 h3 h2 h4, slO_of hx h1 h2, slO_of hy h3 h4, decide_eq_true_iff]
      rfl
    · rw [h.1 (fun h' => hb h'.2), (slO_none hy).2 hb]
      cases slO la <;> simp [eqO]
  · rw [h.1 (fun h' => ha h'.1), (slO_none hx).2 ha]
    simp [eqO]
theorem same_rest {W : World} {A : Nat → Prop} : ∀ {c d : CT} {x y : C8}, RC W A c x → RC W A d y → x.k = y.k → (x.k ≠ 1 ∧ x.k ≠ 2 ∧ x.k ≠ 7) → (sameP c.ess d.ess ↔ c.kids.length = d.kids.length ∧ ∀ (i : Nat) a b, c.kids[i]? = some a → d.kids[i]? = some b → sameP a.ess b.ess)
  | .var .., _, x, y, h, h2, hk, h3 => by have := h.1; omega
  | .sort .., _, x, y, h, h2, hk, h3 => by have := h.1; omega
  | .cst .., _, x, y, h, h2, hk, h3 => by have := h.1; omega
  | _, .var .., x, y, h, h2, hk, h3 => by have := h2.1; omega
  | _, .sort .., x, y, h, h2, hk, h3 => by have := h2.1; omega
  | _, .cst .., x, y, h, h2, hk, h3 => by have := h2.1; omega
  | .odd k m, .odd j n, x, y, h, h2, hk, h3 => by
    have := h.1
    have := h2.1
    simp [CT.ess, sameP, CT.kids]
    omega
  | .odd k m, .two .., x, y, h, h2, hk, h3 => by simp [CT.ess, sameP, CT.kids]
  | .odd k m, .lt .., x, y, h, h2, hk, h3 => by simp [CT.ess, sameP, CT.kids]
  | .two .., .odd .., x, y, h, h2, hk, h3 => by simp [CT.ess, sameP, CT.kids]
  | .lt .., .odd .., x, y, h, h2, hk, h3 => by simp [CT.ess, sameP, CT.kids]
  | .two .., .lt .., x, y, h, h2, hk, h3 => by simp [CT.ess, sameP, CT.kids]
  | .lt .., .two .., x, y, h, h2, hk, h3 => by simp [CT.ess, sameP, CT.kids]
  | .two k a b m, .two j c d n, x, y, h, h2, hk, h3 => by
    have e1 := h.1
    have e2 := h2.1
    simp only [CT.ess, sameP, CT.kids]
    constructor
    · rintro ⟨_, g1, g2⟩
      refine ⟨rfl, fun i p q e3 e4 => ?_⟩
      rcases i with _ | _ | i
      · simp at e3 e4; subst e3 e4; exact g1
      · simp at e3 e4; subst e3 e4; exact g2
      · simp at e3
    · rintro ⟨_, g⟩
      exact ⟨by omega, g 0 a c rfl rfl, g 1 b d rfl rfl⟩
  | .lt a b c m, .lt d e f n, x, y, h, h2, hk, h3 => by
    simp only [CT.ess, sameP, CT.kids]
    constructor
    · rintro ⟨g1, g2, g3⟩
      refine ⟨rfl, fun i p q e3 e4 => ?_⟩
      rcases i with _ | _ | _ | i
      · simp at e3 e4; subst e3 e4; exact g1
      · simp at e3 e4; subst e3 e4; exact g2
      · simp at e3 e4; subst e3 e4; exact g3
      · simp at e3
    · rintro ⟨_, g⟩
      exact ⟨g 0 a d rfl rfl, g 1 b e rfl rfl, g 2 c f rfl rfl⟩

set_option maxRecDepth 100000 in
set_option maxHeartbeats 400000 in
theorem eqL116 (cs ds : List Lv) (v u : Value) (w0 : World) (hV : RVn w0 (fun k => k < w0.heap.size) v cs) (hU : RVn w0 (fun k => k < w0.heap.size) u ds) (hlen : cs.length ≤ 9223372036854775807) : Calls Try.prog 116 #[v, u, .func (.func 115) #[] #[]] w0 fun e w' => ∃ z, e = .returned z ∧ (∃ b, z = .bool b ∧ (b = true ↔ cs.length = ds.length ∧ ∀ (i : Nat) p q, cs[i]? = some p → ds[i]? = some q → eqO (slO p) (slO q))) ∧ Below w0.heap.size w0 w' := by
  obtain ⟨av, cv, hve, _⟩ := hV.form
  subst hve
  obtain ⟨au, cu, hue, _⟩ := hU.form
  subst hue
  have hB := Below.refl w0.heap.size w0
  have sB := hB.size
  refine calls_fs 32 [(0, .slice av cs.length cv), (1, .slice au ds.length cu), (2, .func (.func 115) #[] #[])] Try.func116 rfl rfl rfl rfl rfl fun a hF => ?_
  refine wp_rs fun K1 hK1 => ?_
  refine s_val hF (x_assign rfl) (by decide) fun a hF => ?_
  refine s_end (hK1 _ _ ?_)
  refine wp_seq_k fun K2 hK2 => ?_
  rcases (show cs.length ≠ ds.length ∨ cs.length = ds.length by omega) with hk1 | hk1
  · skip
    refine wp_rs fun K4 hK4 => ?_
    refine s_val hF (x_move rfl) (by decide) fun a hF => ?_
    refine s_val hF (x_len Try.underlying22 rfl) (by decide) fun a hF => ?_
    refine s_val hF (x_move rfl) (by decide) fun a hF => ?_
    refine s_val hF (x_len Try.underlying22 rfl) (by decide) fun a hF => ?_
    refine s_val hF (x_neq (b := true) (decide_eq_true (by omega)) rfl rfl) (by decide) fun a hF => ?_
    refine s_end (hK4 _ _ ?_)
    refine wp_if hF rfl ?_
    refine wp_rs fun K5 hK5 => ?_
    refine s_val hF (x_assign rfl) (by decide) fun a hF => ?_
    refine s_end (hK5 _ _ ?_)
    refine wp_ret (then_ret (res_slot hF rfl rfl ⟨_, rfl, ⟨false, rfl, fun h => absurd h (by decide), fun h => absurd h.1 hk1⟩, hB⟩))
  · skip
    refine wp_rs fun K6 hK6 => ?_
    refine s_val hF (x_move rfl) (by decide) fun a hF => ?_
    refine s_val hF (x_len Try.underlying22 rfl) (by decide) fun a hF => ?_
    refine s_val hF (x_move rfl) (by decide) fun a hF => ?_
    refine s_val hF (x_len Try.underlying22 rfl) (by decide) fun a hF => ?_
    refine s_val hF (x_neq (b := false) (decide_eq_false (by omega)) rfl rfl) (by decide) fun a hF => ?_
    refine s_end (hK6 _ _ ?_)
    refine wp_if hF rfl ?_
    refine wp_skip (hK2 _ _ ?_)
    refine wp_seq_k fun K7 hK7 => ?_
    refine wp_rs fun K8 hK8 => ?_
    refine s_val hF (x_move rfl) (by decide) fun a hF => ?_
    refine s_val hF (x_len Try.underlying22 rfl) (by decide) fun a hF => ?_
    refine s_val hF (x_move rfl) (by decide) fun a hF => ?_
    refine s_end (hK8 _ _ ?_)
    refine wp_block ?_
    refine wp_up cs.length (fun i a w => (∀ (j : Nat) p q, j < i → cs[j]? = some p → ds[j]? = some q → eqO (slO p) (slO q)) ∧ Below w0.heap.size w0 w ∧ Fs 32 a [(1, .slice au ds.length cu), (2, .func (.func 115) #[] #[]), (15, .slice av cs.length cv), (16, .int .i64 (cs.length : Int)), (17, .int .i64 (i : Int))]) ⟨(fun j p q h => absurd h (by omega)), hB, hF.sub _ rfl⟩ ?_
    clear hF hB
    rintro i a w hi ⟨hok, hB, hF⟩ K' hK'
    have sB := hB.size
    refine wp_rs fun K9 hK9 => ?_
    refine s_val hF (x_lss (b := decide (i < cs.length)) (decide_eq_decide.2 (by omega)) rfl rfl) (by decide) fun a hF => ?_
    refine s_end (hK9 _ _ ?_)
    refine wp_seq_k fun K10 hK10 => ?_
    refine wp_iff hF rfl (fun hc18 => ?_) (fun hc18 => ?_)
    · obtain ⟨b9, off9, c9, x, p, hve, hp, hrx, hAb, hbl, hrow⟩ := hV.row (i := i) (by omega)
      obtain ⟨b8, off8, c8, y, q, hue, hq, hry, hAb8, hbl8, hrow8⟩ := hU.row (i := i) (by omega)
      cases hve
      cases hue
      refine wp_skip (hK10 _ _ ?_)
      refine wp_seq_k fun K11 hK11 => ?_
      refine wp_block ?_
      refine wp_rs fun K12 hK12 => ?_
      refine s_val hF (x_move rfl) (by decide) fun a hF => ?_
      refine s_val hF (x_ixa rfl rfl (m_ixsK i Try.underlying22 el22.size rfl (by omega))) (by decide) fun a hF => ?_
      refine s_val hF (x_ldA wide24 (hrow _ (hB.block _ hbl)) rfl rfl) (by decide) fun a hF => ?_
      refine s_alloc hF (by decide) zero24 fun w2 b8 a eb8 m8 B3 zb8 hF => ?_
      have sB3 := B3.size
      have hB := hB.trans (B3.mono hB.size)
      refine s_val hF (x_assign rfl) (by decide) fun a hF => ?_
      refine s_putW hF rfl rfl (size_wide wide24) m8 rfl (one_lc (RLn.rl hrx).one1) fun w6 m8 o7 => ?_
      have so7 := o7.size
      have hB := hB.trans (o7.below (by omega))
      refine s_end (hK12 _ _ ?_)
      refine wp_rs fun K13 hK13 => ?_
      refine s_val hF (x_move rfl) (by decide) fun a hF => ?_
      refine s_val hF (x_move rfl) (by decide) fun a hF => ?_
      refine s_val hF (x_ixa rfl rfl (m_ixsK i Try.underlying22 el22.size rfl (by omega))) (by decide) fun a hF => ?_
      refine s_val hF (x_ldA wide24 (hrow8 _ (hB.block _ hbl8)) rfl rfl) (by decide) fun a hF => ?_
      refine s_alloc hF (by decide) zero24 fun w8 b9 a eb9 m9 B9 zb9 hF => ?_
      have sB9 := B9.size
      have hB := hB.trans (B9.mono hB.size)
      have m8 := m8.old B9
      refine s_putW hF rfl rfl (size_wide wide24) m9 rfl (one_lc (RLn.rl hry).one1) fun w12 m9 o13 => ?_
      have so13 := o13.size
      have hB := hB.trans (o13.below (by omega))
      have m8 := m8.only o13 (by omega)
      refine s_end (hK13 _ _ ?_)
      refine wp_rs fun K14 hK14 => ?_
      refine s_val hF (x_move rfl) (by decide) fun a hF => ?_
      refine s_val hF (x_ldW wide24 m8 rfl rfl) (by decide) fun a hF => ?_
      refine s_val hF (x_ldW wide24 m9 rfl rfl) (by decide) fun a hF => ?_
      refine s_callC (R := fun v w' => (∃ b, v = .bool b ∧ (b = true ↔ eqO (slO p) (slO q))) ∧ Below w12.heap.size w12 w') (lb := []) hF [_, _] rfl (enters_of Try.func115 (by kernel_rfl) rfl) rfl (by decide) ((Equal23 x y p q w12 (hrx.keep hB.size (fun k hk _ => hB.block k hk)).rl (hry.keep hB.size (fun k hk _ => hB.block k hk)).rl).mono fun e w' ⟨v, h1, ⟨b, h2, h3⟩, h4⟩ => ⟨v, h1, ⟨b, h2, h3.iff (hrx.keep hB.size (fun k hk _ => hB.block k hk)).rl (hry.keep hB.size (fun k hk _ => hB.block k hk)).rl⟩, h4⟩) ?_
      rintro _ w14 a ⟨⟨b29, rfl, h29⟩, B15⟩ hF
      have sB15 := B15.size
      have hB := hB.trans (B15.mono hB.size)
      have m8 := m8.old B15
      have m9 := m9.old B15
      refine s_val hF (x_not rfl) (by decide) fun a hF => ?_
      refine s_end (hK14 _ _ ?_)
      refine wp_ifb hF rfl (fun hc30 => ?_) (fun hc30 => ?_)
      · have hn29 : ¬ (eqO (slO p) (slO q)) := fun h => by have := h29.2 h; subst this; simp at hc30
        refine wp_rs fun K15 hK15 => ?_
        refine s_val hF (x_assign rfl) (by decide) fun a hF => ?_
        refine s_end (hK15 _ _ ?_)
        refine wp_ret (inb_ret (then_ret (then_ret (inb_ret (then_ret (res_slot hF rfl rfl ⟨_, rfl, ⟨false, rfl, fun h => absurd h (by decide), fun h => (hn29 (h.2 i p q hp hq)).elim⟩, hB⟩))))))
      · obtain rfl : b29 = true := by simpa using hc30
        have h30 := h29.1 rfl
        refine wp_skip (hK11 _ _ ?_)
        refine wp_region_lit ?_
        refine s_val hF (x_addn (i + 1) (by omega) (by omega) rfl rfl) (by decide) fun a hF => ?_
        refine s_val hF (x_move rfl) (by decide) fun a hF => ?_
        refine s_end (hK' _ _ (by omega) ⟨(fun j p' q' hj e1 e2 => by rcases Nat.lt_or_ge j i with h | h; (· exact hok j p' q' h e1 e2); (· obtain rfl : j = i := (by omega); rw [hp] at e1; rw [hq] at e2; cases e1; cases e2; exact h30)), hB, hF.sub _ rfl⟩)
    · obtain rfl : i = cs.length := by omega
      refine wp_exit (hK7 _ _ ?_)
      refine wp_rs fun K16 hK16 => ?_
      refine s_val hF (x_assign rfl) (by decide) fun a hF => ?_
      refine s_end (hK16 _ _ ?_)
      refine wp_ret (res_slot hF rfl rfl ⟨_, rfl, ⟨true, rfl, fun _ => ⟨hk1, fun j p q e1 e2 => hok j p q (List.getElem?_eq_some_iff.1 e1).1 e1 e2⟩, fun _ => rfl⟩, hB⟩)

set_option maxRecDepth 100000 in
set_option maxHeartbeats 400000 in
theorem eqT117 (cs ds : List CT) (v u : Value) (w0 : World) (hV : RK w0 (fun k => k < w0.heap.size) v cs) (hU : RK w0 (fun k => k < w0.heap.size) u ds) (hlen : cs.length ≤ 9223372036854775807) (HS : ∀ (p q : CT) (x y : C8) (w : World) (i : Nat), cs[i]? = some p → ds[i]? = some q → RC w (fun k => k < w.heap.size) p x → RC w (fun k => k < w.heap.size) q y → Calls Try.prog 81 #[tv x, tv y] w fun e w' => ∃ z, e = .returned z ∧ (∃ b, z = .bool b ∧ (b = true ↔ sameP p.ess q.ess)) ∧ Below w.heap.size w w') : Calls Try.prog 117 #[v, u, .func (.func 81) #[] #[]] w0 fun e w' => ∃ z, e = .returned z ∧ (∃ b, z = .bool b ∧ (b = true ↔ cs.length = ds.length ∧ ∀ (i : Nat) p q, cs[i]? = some p → ds[i]? = some q → sameP p.ess q.ess)) ∧ Below w0.heap.size w0 w' := by
  obtain ⟨av, cv, hve, _⟩ := hV.form
  subst hve
  obtain ⟨au, cu, hue, _⟩ := hU.form
  subst hue
  have hB := Below.refl w0.heap.size w0
  have sB := hB.size
  refine calls_fs 32 [(0, .slice av cs.length cv), (1, .slice au ds.length cu), (2, .func (.func 81) #[] #[])] Try.func117 rfl rfl rfl rfl rfl fun a hF => ?_
  refine wp_rs fun K1 hK1 => ?_
  refine s_val hF (x_assign rfl) (by decide) fun a hF => ?_
  refine s_end (hK1 _ _ ?_)
  refine wp_seq_k fun K2 hK2 => ?_
  rcases (show cs.length ≠ ds.length ∨ cs.length = ds.length by omega) with hk1 | hk1
  · skip
    refine wp_rs fun K4 hK4 => ?_
    refine s_val hF (x_move rfl) (by decide) fun a hF => ?_
    refine s_val hF (x_len Try.underlying25 rfl) (by decide) fun a hF => ?_
    refine s_val hF (x_move rfl) (by decide) fun a hF => ?_
    refine s_val hF (x_len Try.underlying25 rfl) (by decide) fun a hF => ?_
    refine s_val hF (x_neq (b := true) (decide_eq_true (by omega)) rfl rfl) (by decide) fun a hF => ?_
    refine s_end (hK4 _ _ ?_)
    refine wp_if hF rfl ?_
    refine wp_rs fun K5 hK5 => ?_
    refine s_val hF (x_assign rfl) (by decide) fun a hF => ?_
    refine s_end (hK5 _ _ ?_)
    refine wp_ret (then_ret (res_slot hF rfl rfl ⟨_, rfl, ⟨false, rfl, fun h => absurd h (by decide), fun h => absurd h.1 hk1⟩, hB⟩))
  · skip
    refine wp_rs fun K6 hK6 => ?_
    refine s_val hF (x_move rfl) (by decide) fun a hF => ?_
    refine s_val hF (x_len Try.underlying25 rfl) (by decide) fun a hF => ?_
    refine s_val hF (x_move rfl) (by decide) fun a hF => ?_
    refine s_val hF (x_len Try.underlying25 rfl) (by decide) fun a hF => ?_
    refine s_val hF (x_neq (b := false) (decide_eq_false (by omega)) rfl rfl) (by decide) fun a hF => ?_
    refine s_end (hK6 _ _ ?_)
    refine wp_if hF rfl ?_
    refine wp_skip (hK2 _ _ ?_)
    refine wp_seq_k fun K7 hK7 => ?_
    refine wp_rs fun K8 hK8 => ?_
    refine s_val hF (x_move rfl) (by decide) fun a hF => ?_
    refine s_val hF (x_len Try.underlying25 rfl) (by decide) fun a hF => ?_
    refine s_val hF (x_move rfl) (by decide) fun a hF => ?_
    refine s_end (hK8 _ _ ?_)
    refine wp_block ?_
    refine wp_up cs.length (fun i a w => (∀ (j : Nat) p q, j < i → cs[j]? = some p → ds[j]? = some q → sameP p.ess q.ess) ∧ Below w0.heap.size w0 w ∧ Fs 32 a [(1, .slice au ds.length cu), (2, .func (.func 81) #[] #[]), (15, .slice av cs.length cv), (16, .int .i64 (cs.length : Int)), (17, .int .i64 (i : Int))]) ⟨(fun j p q h => absurd h (by omega)), hB, hF.sub _ rfl⟩ ?_
    clear hF hB
    rintro i a w hi ⟨hok, hB, hF⟩ K' hK'
    have sB := hB.size
    refine wp_rs fun K9 hK9 => ?_
    refine s_val hF (x_lss (b := decide (i < cs.length)) (decide_eq_decide.2 (by omega)) rfl rfl) (by decide) fun a hF => ?_
    refine s_end (hK9 _ _ ?_)
    refine wp_seq_k fun K10 hK10 => ?_
    refine wp_iff hF rfl (fun hc18 => ?_) (fun hc18 => ?_)
    · obtain ⟨b9, off9, c9, x, p, hve, hp, hrx, hAb, hbl, hrow⟩ := hV.row (i := i) (by omega)
      obtain ⟨b8, off8, c8, y, q, hue, hq, hry, hAb8, hbl8, hrow8⟩ := hU.row (i := i) (by omega)
      cases hve
      cases hue
      refine wp_skip (hK10 _ _ ?_)
      refine wp_seq_k fun K11 hK11 => ?_
      refine wp_block ?_
      refine wp_rs fun K12 hK12 => ?_
      refine s_val hF (x_move rfl) (by decide) fun a hF => ?_
      refine s_val hF (x_ixa rfl rfl (m_ixsK i Try.underlying25 el25.size rfl (by omega))) (by decide) fun a hF => ?_
      refine s_val hF (x_ldA wide27 (hrow _ (hB.block _ hbl)) rfl rfl) (by decide) fun a hF => ?_
      refine s_alloc hF (by decide) zero27 fun w2 b8 a eb8 m8 B3 zb8 hF => ?_
      have sB3 := B3.size
      have hB := hB.trans (B3.mono hB.size)
      refine s_val hF (x_assign rfl) (by decide) fun a hF => ?_
      refine s_putW hF rfl rfl (size_wide wide27) m8 rfl hrx.one fun w6 m8 o7 => ?_
      have so7 := o7.size
      have hB := hB.trans (o7.below (by omega))
      refine s_end (hK12 _ _ ?_)
      refine wp_rs fun K13 hK13 => ?_
      refine s_val hF (x_move rfl) (by decide) fun a hF => ?_
      refine s_val hF (x_move rfl) (by decide) fun a hF => ?_
      refine s_val hF (x_ixa rfl rfl (m_ixsK i Try.underlying25 el25.size rfl (by omega))) (by decide) fun a hF => ?_
      refine s_val hF (x_ldA wide27 (hrow8 _ (hB.block _ hbl8)) rfl rfl) (by decide) fun a hF => ?_
      refine s_alloc hF (by decide) zero27 fun w8 b9 a eb9 m9 B9 zb9 hF => ?_
      have sB9 := B9.size
      have hB := hB.trans (B9.mono hB.size)
      have m8 := m8.old B9
      refine s_putW hF rfl rfl (size_wide wide27) m9 rfl hry.one fun w12 m9 o13 => ?_
      have so13 := o13.size
      have hB := hB.trans (o13.below (by omega))
      have m8 := m8.only o13 (by omega)
      refine s_end (hK13 _ _ ?_)
      refine wp_rs fun K14 hK14 => ?_
      refine s_val hF (x_move rfl) (by decide) fun a hF => ?_
      refine s_val hF (x_ldW wide27 m8 rfl rfl) (by decide) fun a hF => ?_
      refine s_val hF (x_ldW wide27 m9 rfl rfl) (by decide) fun a hF => ?_
      refine s_callC (R := fun v w' => (∃ b, v = .bool b ∧ (b = true ↔ sameP p.ess q.ess)) ∧ Below w12.heap.size w12 w') (lb := []) hF [_, _] rfl (enters_of Try.func81 (by kernel_rfl) rfl) rfl (by decide) (HS p q x y w12 i hp hq (hrx.bel hB) (hry.bel hB)) ?_
      rintro _ w14 a ⟨⟨b29, rfl, h29⟩, B15⟩ hF
      have sB15 := B15.size
      have hB := hB.trans (B15.mono hB.size)
      have m8 := m8.old B15
      have m9 := m9.old B15
      refine s_val hF (x_not rfl) (by decide) fun a hF => ?_
      refine s_end (hK14 _ _ ?_)
      refine wp_ifb hF rfl (fun hc30 => ?_) (fun hc30 => ?_)
      · have hn29 : ¬ (sameP p.ess q.ess) := fun h => by have := h29.2 h; subst this; simp at hc30
        refine wp_rs fun K15 hK15 => ?_
        refine s_val hF (x_assign rfl) (by decide) fun a hF => ?_
        refine s_end (hK15 _ _ ?_)
        refine wp_ret (inb_ret (then_ret (then_ret (inb_ret (then_ret (res_slot hF rfl rfl ⟨_, rfl, ⟨false, rfl, fun h => absurd h (by decide), fun h => (hn29 (h.2 i p q hp hq)).elim⟩, hB⟩))))))
      · obtain rfl : b29 = true := by simpa using hc30
        have h30 := h29.1 rfl
        refine wp_skip (hK11 _ _ ?_)
        refine wp_region_lit ?_
        refine s_val hF (x_addn (i + 1) (by omega) (by omega) rfl rfl) (by decide) fun a hF => ?_
        refine s_val hF (x_move rfl) (by decide) fun a hF => ?_
        refine s_end (hK' _ _ (by omega) ⟨(fun j p' q' hj e1 e2 => by rcases Nat.lt_or_ge j i with h | h; (· exact hok j p' q' h e1 e2); (· obtain rfl : j = i := (by omega); rw [hp] at e1; rw [hq] at e2; cases e1; cases e2; exact h30)), hB, hF.sub _ rfl⟩)
    · obtain rfl : i = cs.length := by omega
      refine wp_exit (hK7 _ _ ?_)
      refine wp_rs fun K16 hK16 => ?_
      refine s_val hF (x_assign rfl) (by decide) fun a hF => ?_
      refine s_end (hK16 _ _ ?_)
      refine wp_ret (res_slot hF rfl rfl ⟨_, rfl, ⟨true, rfl, fun _ => ⟨hk1, fun j p q e1 e2 => hok j p q (List.getElem?_eq_some_iff.1 e1).1 e1 e2⟩, fun _ => rfl⟩, hB⟩)

theorem kd_same {W : World} {A : Nat → Prop} {c d : CT} {x y : C8} (hx : RC W A c x) (hy : RC W A d y) (h : sameP c.ess d.ess) : x.k = y.k := by
  rw [hx.kd, hy.kd]
  cases c <;> cases d <;> simp only [CT.ess, sameP, CT.kd] at h ⊢ <;> first | exact h.elim | exact h.1 | exact h

set_option maxRecDepth 100000 in
set_option maxHeartbeats 400000 in
theorem same81 : ∀ (N : Nat) (c d : CT) (x y : C8) (w0 : World), c.size < N → RC w0 (fun k => k < w0.heap.size) c x → RC w0 (fun k => k < w0.heap.size) d y → c.ess.fit → Calls Try.prog 81 #[tv x, tv y] w0 fun e w' => ∃ z, e = .returned z ∧ (∃ b, z = .bool b ∧ (b = true ↔ sameP c.ess d.ess)) ∧ Below w0.heap.size w0 w' := by
  intro N
  induction N with
  | zero => intro c d x y w0 h; omega
  | succ N ih =>
  intro c d x y w0 hN hx hy hfit
  have h3 := c.kids_le
  have hB := Below.refl w0.heap.size w0
  have sB := hB.size
  refine calls_fs 45 [(0, tv x), (1, tv y)] Try.func81 rfl rfl rfl rfl rfl fun a hF => ?_
  refine wp_rs fun K1 hK1 => ?_
  refine s_box (tc x) hF (by decide) rfl rfl fun w2 b2 a eb2 m2 B3 zb2 hF => ?_
  have sB3 := B3.size
  have hB := hB.trans (B3.mono hB.size)
  refine s_box (tc y) hF (by decide) rfl rfl fun w4 b3 a eb3 m3 B5 zb3 hF => ?_
  have sB5 := B5.size
  have hB := hB.trans (B5.mono hB.size)
  have m2 := m2.old B5
  refine s_val hF (x_assign rfl) (by decide) fun a hF => ?_
  refine s_end (hK1 _ _ ?_)
  refine wp_seq_k fun K2 hK2 => ?_
  rcases (show x.k ≠ y.k ∨ (x.k = 1 ∧ x.k = y.k) ∨ (x.k = 2 ∧ x.k = y.k) ∨ (x.k = 7 ∧ x.k = y.k) ∨ ((x.k ≠ 1 ∧ x.k ≠ 2 ∧ x.k ≠ 7) ∧ x.k = y.k) by omega) with hk | hk | hk | hk | hk
  · skip
    refine wp_rs fun K4 hK4 => ?_
    refine s_val hF (x_fa0 fa27_0 rfl) (by decide) fun a hF => ?_
    refine s_val hF (x_load rfl (m_load flat3 (m2.cell (j := 0) rfl))) (by decide) fun a hF => ?_
    refine s_val hF (x_fa0 fa27_0 rfl) (by decide) fun a hF => ?_
    refine s_val hF (x_load rfl (m_load flat3 (m3.cell (j := 0) rfl))) (by decide) fun a hF => ?_
    refine s_val hF (x_neq (b := true) (decide_eq_true (by omega)) rfl rfl) (by decide) fun a hF => ?_
    refine s_end (hK4 _ _ ?_)
    refine wp_if hF rfl ?_
    refine wp_rs fun K5 hK5 => ?_
    refine s_val hF (x_assign rfl) (by decide) fun a hF => ?_
    refine s_end (hK5 _ _ ?_)
    refine wp_ret (then_ret (res_slot hF rfl rfl ⟨_, rfl, ⟨false, rfl, fun h => absurd h (by decide), fun h => (hk (kd_same hx hy h)).elim⟩, hB⟩))
  · skip
    refine wp_rs fun K6 hK6 => ?_
    refine s_val hF (x_fa0 fa27_0 rfl) (by decide) fun a hF => ?_
    refine s_val hF (x_load rfl (m_load flat3 (m2.cell (j := 0) rfl))) (by decide) fun a hF => ?_
    refine s_val hF (x_fa0 fa27_0 rfl) (by decide) fun a hF => ?_
    refine s_val hF (x_load rfl (m_load flat3 (m3.cell (j := 0) rfl))) (by decide) fun a hF => ?_
    refine s_val hF (x_neq (b := false) (decide_eq_false (by omega)) rfl rfl) (by decide) fun a hF => ?_
    refine s_end (hK6 _ _ ?_)
    refine wp_if hF rfl ?_
    refine wp_skip (hK2 _ _ ?_)
    refine wp_seq_k fun K7 hK7 => ?_
    refine wp_rs fun K8 hK8 => ?_
    refine s_val hF (x_fa0 fa27_0 rfl) (by decide) fun a hF => ?_
    refine s_val hF (x_load rfl (m_load flat3 (m2.cell (j := 0) rfl))) (by decide) fun a hF => ?_
    refine s_end (hK8 _ _ ?_)
    refine wp_block ?_
    refine wp_rs fun K9 hK9 => ?_
    refine s_val hF (x_eql (b := true) (decide_eq_true (by omega)) rfl rfl) (by decide) fun a hF => ?_
    refine s_val hF (x_assign rfl) (by decide) fun a hF => ?_
    refine s_end (hK9 _ _ ?_)
    refine wp_if hF rfl ?_
    refine wp_rs fun K10 hK10 => ?_
    refine s_val hF (x_fa0 fa27_1 rfl) (by decide) fun a hF => ?_
    refine s_val hF (x_load rfl (m_load flat3 (m2.cell (j := 1) rfl))) (by decide) fun a hF => ?_
    refine s_val hF (x_fa0 fa27_1 rfl) (by decide) fun a hF => ?_
    refine s_val hF (x_load rfl (m_load flat3 (m3.cell (j := 1) rfl))) (by decide) fun a hF => ?_
    refine s_val hF (x_eql rfl rfl rfl) (by decide) fun a hF => ?_
    refine s_val hF (x_assign rfl) (by decide) fun a hF => ?_
    refine s_end (hK10 _ _ ?_)
    obtain ⟨n1, m1_, rfl⟩ := hx.var_of hk.1
    obtain ⟨n2, m2_, rfl⟩ := hy.var_of (by omega)
    have hn1 : x.n = n1 := hx.2.1
    have hn2 : y.n = n2 := hy.2.1
    refine wp_ret (inb_ret (then_ret (res_slot hF rfl rfl ⟨_, rfl, ⟨_, rfl, by rw [decide_eq_true_iff, hn1, hn2]; rfl⟩, hB⟩)))
  · skip
    refine wp_rs fun K11 hK11 => ?_
    refine s_val hF (x_fa0 fa27_0 rfl) (by decide) fun a hF => ?_
    refine s_val hF (x_load rfl (m_load flat3 (m2.cell (j := 0) rfl))) (by decide) fun a hF => ?_
    refine s_val hF (x_fa0 fa27_0 rfl) (by decide) fun a hF => ?_
    refine s_val hF (x_load rfl (m_load flat3 (m3.cell (j := 0) rfl))) (by decide) fun a hF => ?_
    refine s_val hF (x_neq (b := false) (decide_eq_false (by omega)) rfl rfl) (by decide) fun a hF => ?_
    refine s_end (hK11 _ _ ?_)
    refine wp_if hF rfl ?_
    refine wp_skip (hK2 _ _ ?_)
    refine wp_seq_k fun K12 hK12 => ?_
    refine wp_rs fun K13 hK13 => ?_
    refine s_val hF (x_fa0 fa27_0 rfl) (by decide) fun a hF => ?_
    refine s_val hF (x_load rfl (m_load flat3 (m2.cell (j := 0) rfl))) (by decide) fun a hF => ?_
    refine s_end (hK13 _ _ ?_)
    refine wp_block ?_
    refine wp_rs fun K14 hK14 => ?_
    refine s_val hF (x_eql (b := false) (decide_eq_false (by omega)) rfl rfl) (by decide) fun a hF => ?_
    refine s_val hF (x_assign rfl) (by decide) fun a hF => ?_
    refine s_end (hK14 _ _ ?_)
    refine wp_if hF rfl ?_
    refine wp_rs fun K15 hK15 => ?_
    refine s_val hF (x_eql (b := true) (decide_eq_true (by omega)) rfl rfl) (by decide) fun a hF => ?_
    refine s_val hF (x_assign rfl) (by decide) fun a hF => ?_
    refine s_end (hK15 _ _ ?_)
    refine wp_if hF rfl ?_
    refine wp_rs fun K16 hK16 => ?_
    refine s_val hF (x_fa0 fa27_3 rfl) (by decide) fun a hF => ?_
    refine s_val hF (x_load rfl (m_loadP (vs := [_, _, _]) wide24 m2 rfl)) (by decide) fun a hF => ?_
    refine s_val hF (x_fa0 fa27_3 rfl) (by decide) fun a hF => ?_
    refine s_val hF (x_load rfl (m_loadP (vs := [_, _, _]) wide24 m3 rfl)) (by decide) fun a hF => ?_
    obtain ⟨l, q1, rfl⟩ := hx.sort_of hk.1
    obtain ⟨l2, q2, rfl⟩ := hy.sort_of (by omega)
    have hl1 : RLn w0 _ x.l l := hx.2.1
    have hl2 : RLn w0 _ y.l l2 := hy.2.1
    refine s_callR (R := fun v w' => ∃ b, v = .bool b ∧ (b = true ↔ eqO (slO l) (slO l2))) [_, _] hF (enters_of Try.func115 (by kernel_rfl) rfl) rfl (by decide) ((Equal23 x.l y.l l l2 w4 (hl1.keep hB.size (fun k hk _ => hB.block k hk)).rl (hl2.keep hB.size (fun k hk _ => hB.block k hk)).rl).mono fun e w' ⟨v, h1, ⟨b, h2, h4⟩, h5⟩ => ⟨v, h1, ⟨b, h2, h4.iff (hl1.keep hB.size (fun k hk _ => hB.block k hk)).rl (hl2.keep hB.size (fun k hk _ => hB.block k hk)).rl⟩, h5⟩) ?_
    rintro _ w6 a ⟨b25, rfl, h25⟩ B7 hF
    have sB7 := B7.size
    have hB := hB.trans (B7.mono hB.size)
    have m2 := m2.old B7
    have m3 := m3.old B7
    refine s_val hF (x_assign rfl) (by decide) fun a hF => ?_
    refine s_end (hK16 _ _ ?_)
    refine wp_ret (inb_ret (then_ret (res_slot hF rfl rfl ⟨_, rfl, ⟨_, rfl, h25⟩, hB⟩)))
  · skip
    refine wp_rs fun K17 hK17 => ?_
    refine s_val hF (x_fa0 fa27_0 rfl) (by decide) fun a hF => ?_
    refine s_val hF (x_load rfl (m_load flat3 (m2.cell (j := 0) rfl))) (by decide) fun a hF => ?_
    refine s_val hF (x_fa0 fa27_0 rfl) (by decide) fun a hF => ?_
    refine s_val hF (x_load rfl (m_load flat3 (m3.cell (j := 0) rfl))) (by decide) fun a hF => ?_
    refine s_val hF (x_neq (b := false) (decide_eq_false (by omega)) rfl rfl) (by decide) fun a hF => ?_
    refine s_end (hK17 _ _ ?_)
    refine wp_if hF rfl ?_
    refine wp_skip (hK2 _ _ ?_)
    refine wp_seq_k fun K18 hK18 => ?_
    refine wp_rs fun K19 hK19 => ?_
    refine s_val hF (x_fa0 fa27_0 rfl) (by decide) fun a hF => ?_
    refine s_val hF (x_load rfl (m_load flat3 (m2.cell (j := 0) rfl))) (by decide) fun a hF => ?_
    refine s_end (hK19 _ _ ?_)
    refine wp_block ?_
    refine wp_rs fun K20 hK20 => ?_
    refine s_val hF (x_eql (b := false) (decide_eq_false (by omega)) rfl rfl) (by decide) fun a hF => ?_
    refine s_val hF (x_assign rfl) (by decide) fun a hF => ?_
    refine s_end (hK20 _ _ ?_)
    refine wp_if hF rfl ?_
    refine wp_rs fun K21 hK21 => ?_
    refine s_val hF (x_eql (b := false) (decide_eq_false (by omega)) rfl rfl) (by decide) fun a hF => ?_
    refine s_val hF (x_assign rfl) (by decide) fun a hF => ?_
    refine s_end (hK21 _ _ ?_)
    refine wp_if hF rfl ?_
    refine wp_rs fun K22 hK22 => ?_
    refine s_val hF (x_eql (b := true) (decide_eq_true (by omega)) rfl rfl) (by decide) fun a hF => ?_
    refine s_val hF (x_assign rfl) (by decide) fun a hF => ?_
    refine s_end (hK22 _ _ ?_)
    refine wp_if hF rfl ?_
    by_cases hst : x.s = y.s
    · obtain ⟨s1, ls1, m1_, rfl⟩ := hx.cst_of hk.1
      obtain ⟨s2, ls2, m2_, rfl⟩ := hy.cst_of (by omega)
      have hs1 : x.s = s1 := hx.2.1
      have hs2 : y.s = s2 := hy.2.1
      have hv1 : RVn w0 _ x.ls ls1 := hx.2.2.1
      have hv2 : RVn w0 _ y.ls ls2 := hy.2.2.1
      have hfl : ls1.length ≤ 9223372036854775807 := by have := hfit; simp only [CT.ess, PT.fit, List.length_map] at this; exact this
      refine wp_rs fun K24 hK24 => ?_
      refine s_val hF (x_fa0 fa27_2 rfl) (by decide) fun a hF => ?_
      refine s_val hF (x_load rfl (m_load flat9 (m2.cell (j := 2) rfl))) (by decide) fun a hF => ?_
      refine s_val hF (x_fa0 fa27_2 rfl) (by decide) fun a hF => ?_
      refine s_val hF (x_load rfl (m_load flat9 (m3.cell (j := 2) rfl))) (by decide) fun a hF => ?_
      refine s_val hF (x_eqS (b := true) (decide_eq_true hst) rfl rfl) (by decide) fun a hF => ?_
      refine s_val hF (x_move rfl) (by decide) fun a hF => ?_
      refine s_grd 33 hF rfl rfl rfl ?_
      refine s_val hF (x_fa0 fa27_4 rfl) (by decide) fun a hF => ?_
      refine s_grd 33 hF rfl rfl rfl ?_
      refine s_val hF (x_load rfl (m_load flat22 (m2.cell (j := 6) rfl))) (by decide) fun a hF => ?_
      refine s_grd 33 hF rfl rfl rfl ?_
      refine s_val hF (x_fa0 fa27_4 rfl) (by decide) fun a hF => ?_
      refine s_grd 33 hF rfl rfl rfl ?_
      refine s_val hF (x_load rfl (m_load flat22 (m3.cell (j := 6) rfl))) (by decide) fun a hF => ?_
      refine s_grd 33 hF rfl rfl rfl ?_
      refine s_callR (R := fun v w' => ∃ b, v = .bool b ∧ (b = true ↔ ls1.length = ls2.length ∧ ∀ (i : Nat) p q, ls1[i]? = some p → ls2[i]? = some q → eqO (slO p) (slO q))) [_, _, _] hF (enters_of Try.func116 (by kernel_rfl) rfl) rfl (by decide) (eqL116 ls1 ls2 _ _ w4 ((hv1.keep hB.size (fun k hk _ => hB.block k hk)).mono (fun k hk => by omega)) ((hv2.keep hB.size (fun k hk _ => hB.block k hk)).mono (fun k hk => by omega)) hfl) ?_
      rintro _ w8 a ⟨b38, rfl, h38⟩ B9 hF
      have sB9 := B9.size
      have hB := hB.trans (B9.mono hB.size)
      have m2 := m2.old B9
      have m3 := m3.old B9
      refine s_val hF (x_pick (b := true) rfl rfl) (by decide) fun a hF => ?_
      refine s_val hF (x_assign rfl) (by decide) fun a hF => ?_
      refine s_end (hK24 _ _ ?_)
      refine wp_ret (inb_ret (then_ret (res_slot hF rfl rfl ⟨_, rfl, ⟨_, rfl, by rw [h38]; simp only [CT.ess, sameP, eqOs, List.length_map]; exact ⟨fun h => ⟨by rw [← hs1, ← hs2]; exact hst, h.1, fun i o p e1 e2 => (by rw [List.getElem?_map] at e1 e2; obtain ⟨q1, e3, rfl⟩ := Option.map_eq_some_iff.1 e1; obtain ⟨q2, e4, rfl⟩ := Option.map_eq_some_iff.1 e2; exact h.2 i q1 q2 e3 e4)⟩, fun h => ⟨h.2.1, fun i p q e1 e2 => h.2.2 i (slO p) (slO q) (by rw [List.getElem?_map, e1]; rfl) (by rw [List.getElem?_map, e2]; rfl)⟩⟩⟩, hB⟩)))
    · obtain ⟨s1, ls1, m1_, rfl⟩ := hx.cst_of hk.1
      obtain ⟨s2, ls2, m2_, rfl⟩ := hy.cst_of (by omega)
      have hs1 : x.s = s1 := hx.2.1
      have hs2 : y.s = s2 := hy.2.1
      have hv1 : RVn w0 _ x.ls ls1 := hx.2.2.1
      have hv2 : RVn w0 _ y.ls ls2 := hy.2.2.1
      have hfl : ls1.length ≤ 9223372036854775807 := by have := hfit; simp only [CT.ess, PT.fit, List.length_map] at this; exact this
      refine wp_rs fun K25 hK25 => ?_
      refine s_val hF (x_fa0 fa27_2 rfl) (by decide) fun a hF => ?_
      refine s_val hF (x_load rfl (m_load flat9 (m2.cell (j := 2) rfl))) (by decide) fun a hF => ?_
      refine s_val hF (x_fa0 fa27_2 rfl) (by decide) fun a hF => ?_
      refine s_val hF (x_load rfl (m_load flat9 (m3.cell (j := 2) rfl))) (by decide) fun a hF => ?_
      refine s_val hF (x_eqS (b := false) (decide_eq_false hst) rfl rfl) (by decide) fun a hF => ?_
      refine s_val hF (x_move rfl) (by decide) fun a hF => ?_
      refine s_grdn 33 hF rfl rfl (by decide) fun a hF => ?_
      refine s_grdn 33 hF rfl rfl (by decide) fun a hF => ?_
      refine s_grdn 33 hF rfl rfl (by decide) fun a hF => ?_
      refine s_grdn 33 hF rfl rfl (by decide) fun a hF => ?_
      refine s_grdn 33 hF rfl rfl (by decide) fun a hF => ?_
      refine s_val hF (x_pick (b := false) rfl rfl) (by decide) fun a hF => ?_
      refine s_val hF (x_assign rfl) (by decide) fun a hF => ?_
      refine s_end (hK25 _ _ ?_)
      refine wp_ret (inb_ret (then_ret (res_slot hF rfl rfl ⟨_, rfl, ⟨false, rfl, fun h => absurd h (by decide), fun h => (hst (by rw [hs1, hs2]; exact h.1)).elim⟩, hB⟩)))
  · have hk : (x.k ≠ 1 ∧ x.k ≠ 2 ∧ x.k ≠ 7) ∧ x.k = y.k := hk
    refine wp_rs fun K26 hK26 => ?_
    refine s_val hF (x_fa0 fa27_0 rfl) (by decide) fun a hF => ?_
    refine s_val hF (x_load rfl (m_load flat3 (m2.cell (j := 0) rfl))) (by decide) fun a hF => ?_
    refine s_val hF (x_fa0 fa27_0 rfl) (by decide) fun a hF => ?_
    refine s_val hF (x_load rfl (m_load flat3 (m3.cell (j := 0) rfl))) (by decide) fun a hF => ?_
    refine s_val hF (x_neq (b := false) (decide_eq_false (by omega)) rfl rfl) (by decide) fun a hF => ?_
    refine s_end (hK26 _ _ ?_)
    refine wp_if hF rfl ?_
    refine wp_skip (hK2 _ _ ?_)
    refine wp_seq_k fun K27 hK27 => ?_
    refine wp_rs fun K28 hK28 => ?_
    refine s_val hF (x_fa0 fa27_0 rfl) (by decide) fun a hF => ?_
    refine s_val hF (x_load rfl (m_load flat3 (m2.cell (j := 0) rfl))) (by decide) fun a hF => ?_
    refine s_end (hK28 _ _ ?_)
    refine wp_block ?_
    refine wp_rs fun K29 hK29 => ?_
    refine s_val hF (x_eql (b := false) (decide_eq_false (by omega)) rfl rfl) (by decide) fun a hF => ?_
    refine s_val hF (x_assign rfl) (by decide) fun a hF => ?_
    refine s_end (hK29 _ _ ?_)
    refine wp_if hF rfl ?_
    refine wp_rs fun K30 hK30 => ?_
    refine s_val hF (x_eql (b := false) (decide_eq_false (by omega)) rfl rfl) (by decide) fun a hF => ?_
    refine s_val hF (x_assign rfl) (by decide) fun a hF => ?_
    refine s_end (hK30 _ _ ?_)
    refine wp_if hF rfl ?_
    refine wp_rs fun K31 hK31 => ?_
    refine s_val hF (x_eql (b := false) (decide_eq_false (by omega)) rfl rfl) (by decide) fun a hF => ?_
    refine s_val hF (x_assign rfl) (by decide) fun a hF => ?_
    refine s_end (hK31 _ _ ?_)
    refine wp_if hF rfl ?_
    refine wp_skip (hK27 _ _ ?_)
    refine dk2_seq (w4.heap.size) (w4.heap.size) (ops := regOps Try.f81 10) (N := 6) (by kernel_rfl) wide_orders (by kernel_rfl) fun w10 hw10 B11 hS K32 hK32 => ?_
    have zw10 : w10.heap.size = w4.heap.size := by rw [hw10]
    have sB11 := B11.size
    have hB := hB.trans (B11.mono hB.size)
    have m2 := m2.old B11
    have m3 := m3.old B11
    have m2_d := m2
    have m3_d := m3
    have hB_d := hB
    refine d_val 0 40 (op := (Go.Op.load 27 (Go.Operand.tmp 2))) hF hS (by kernel_rfl) (fun W hW => x_ldW wide27 (m2_d.k2 hW (by omega)) rfl rfl) (by kernel_rfl) (by decide) fun a hF => ?_
    refine d_val 2 42 (op := (Go.Op.load 27 (Go.Operand.tmp 3))) hF hS (by kernel_rfl) (fun W hW => x_ldW wide27 (m3_d.k2 hW (by omega)) rfl rfl) (by kernel_rfl) (by decide) fun a hF => ?_
    refine d_one 1 (some 41) (Go.Op.call (Go.Call.mk (Go.Callee.value (Go.Operand.func 101)) #[(Go.Operand.tmp 40)] #[27])) (by kernel_rfl) (by kernel_rfl) fun ty pos af => ?_
    refine s_callR (R := fun v w' => RK w0 (fun k => k < w0.heap.size) v c.kids) [_] hF (enters_of Try.func101 (by kernel_rfl) rfl) rfl (by decide) (kidsOf101 c x (fun k => k < w0.heap.size) w0 w10 hx) ?_
    rintro v41 w12 a hv41 B13 hF
    have sB13 := B13.size
    have hB := hB.trans (B13.mono hB.size)
    have m2 := m2.old B13
    have m3 := m3.old B13
    have hS := hS.below B13
    refine s_end ⟨hS, ?_⟩
    refine d_one 3 (some 43) (Go.Op.call (Go.Call.mk (Go.Callee.value (Go.Operand.func 101)) #[(Go.Operand.tmp 42)] #[27])) (by kernel_rfl) (by kernel_rfl) fun ty pos af => ?_
    refine s_callR (R := fun v w' => RK w0 (fun k => k < w0.heap.size) v d.kids) [_] hF (enters_of Try.func101 (by kernel_rfl) rfl) rfl (by decide) (kidsOf101 d y (fun k => k < w0.heap.size) w0 w12 hy) ?_
    rintro v43 w14 a hv43 B15 hF
    have sB15 := B15.size
    have hB := hB.trans (B15.mono hB.size)
    have m2 := m2.old B15
    have m3 := m3.old B15
    have hS := hS.below B15
    refine s_end ⟨hS, ?_⟩
    refine d_one 4 (some 44) (Go.Op.call (Go.Call.mk (Go.Callee.value (Go.Operand.func 117)) #[(Go.Operand.tmp 41), (Go.Operand.tmp 43), (Go.Operand.func 81)] #[25, 25, 36])) (by kernel_rfl) (by kernel_rfl) fun ty pos af => ?_
    refine s_callR (R := fun v w' => ∃ b, v = .bool b ∧ (b = true ↔ c.kids.length = d.kids.length ∧ ∀ (i : Nat) p q, c.kids[i]? = some p → d.kids[i]? = some q → sameP p.ess q.ess)) [_, _, _] hF (enters_of Try.func117 (by kernel_rfl) rfl) rfl (by decide) (eqT117 c.kids d.kids _ _ w14 ((hv41.keep hB.size (fun k hk _ => hB.block k hk)).mono (fun k hk => by omega)) ((hv43.keep hB.size (fun k hk _ => hB.block k hk)).mono (fun k hk => by omega)) (by omega) (fun p q x y w i hp hq hx2 hy2 => ih p q x y w (by have := CT.kid_size hp; omega) hx2 hy2 (PT.fit_kid hfit hp))) ?_
    rintro _ w16 a ⟨b44, rfl, h44⟩ B17 hF
    have sB17 := B17.size
    have hB := hB.trans (B17.mono hB.size)
    have m2 := m2.old B17
    have m3 := m3.old B17
    have hS := hS.below B17
    refine s_end ⟨hS, ?_⟩
    refine d_val 5 4 (op := (Go.Op.assign (Go.Operand.tmp 44))) hF hS (by kernel_rfl) (fun W hW => x_assign rfl) (by kernel_rfl) (by decide) fun a hF => ?_
    refine d_end (by kernel_rfl) (hK32 _ _ ?_)
    refine wp_ret (res_slot hF rfl rfl ⟨_, rfl, ⟨_, rfl, by rw [h44, same_rest hx hy hk.2 hk.1]⟩, hB⟩)

set_option maxRecDepth 100000 in
set_option maxHeartbeats 400000 in
theorem Same40 (c d : CT) (x y : C8) (w0 : World) (hx : RC w0 (fun k => k < w0.heap.size) c x) (hy : RC w0 (fun k => k < w0.heap.size) d y) (hfit : c.ess.fit) : Calls Try.prog 40 #[tv x, tv y] w0 fun e w' => ∃ z, e = .returned z ∧ (∃ b, z = .bool b ∧ (b = true ↔ c.ok ∧ d.ok ∧ sameP c.ess d.ess)) ∧ Below w0.heap.size w0 w' := by
  have hB := Below.refl w0.heap.size w0
  have sB := hB.size
  refine calls_fs 18 [(0, tv x), (1, tv y)] Try.func40 rfl rfl rfl rfl rfl fun a hF => ?_
  refine wp_rs fun K1 hK1 => ?_
  refine s_box (tc x) hF (by decide) rfl rfl fun w2 b2 a eb2 m2 B3 zb2 hF => ?_
  have sB3 := B3.size
  have hB := hB.trans (B3.mono hB.size)
  refine s_box (tc y) hF (by decide) rfl rfl fun w4 b3 a eb3 m3 B5 zb3 hF => ?_
  have sB5 := B5.size
  have hB := hB.trans (B5.mono hB.size)
  have m2 := m2.old B5
  refine s_val hF (x_assign rfl) (by decide) fun a hF => ?_
  refine s_end (hK1 _ _ ?_)
  rcases (show ¬ c.ok ∨ (c.ok ∧ ¬ d.ok) ∨ (c.ok ∧ d.ok) by by_cases h : c.ok <;> by_cases h2 : d.ok <;> simp [h, h2]) with hk1 | ⟨hk1, hk2⟩ | ⟨hk1, hk2⟩
  · skip
    refine wp_rs fun K3 hK3 => ?_
    refine s_val hF (x_ldW wide27 m2 rfl rfl) (by decide) fun a hF => ?_
    refine s_callB [_] hF (enters_of Try.func66 (by kernel_rfl) rfl) rfl (by decide) ((isGreat66 c x w4 (hx.bel hB)).mono fun e w' h => ⟨by rw [h.1, decide_eq_true hk1], h.2⟩) fun w6 a B7 hF => ?_
    have sB7 := B7.size
    have hB := hB.trans (B7.mono hB.size)
    have m2 := m2.old B7
    have m3 := m3.old B7
    refine s_val hF (x_not rfl) (by decide) fun a hF => ?_
    refine s_val hF (x_move rfl) (by decide) fun a hF => ?_
    refine s_grdn 8 hF rfl rfl (by decide) fun a hF => ?_
    refine s_grdn 8 hF rfl rfl (by decide) fun a hF => ?_
    refine s_grdn 8 hF rfl rfl (by decide) fun a hF => ?_
    refine s_val hF (x_pick (b := false) rfl rfl) (by decide) fun a hF => ?_
    refine s_val hF (x_move rfl) (by decide) fun a hF => ?_
    refine s_grdn 13 hF rfl rfl (by decide) fun a hF => ?_
    refine s_grdn 13 hF rfl rfl (by decide) fun a hF => ?_
    refine s_grdn 13 hF rfl rfl (by decide) fun a hF => ?_
    refine s_val hF (x_pick (b := false) rfl rfl) (by decide) fun a hF => ?_
    refine s_val hF (x_assign rfl) (by decide) fun a hF => ?_
    refine s_end (hK3 _ _ ?_)
    refine wp_ret (res_slot hF rfl rfl ⟨_, rfl, ⟨false, rfl, fun h => absurd h (by decide), fun h => (hk1 h.1).elim⟩, hB⟩)
  · skip
    refine wp_rs fun K4 hK4 => ?_
    refine s_val hF (x_ldW wide27 m2 rfl rfl) (by decide) fun a hF => ?_
    refine s_callB [_] hF (enters_of Try.func66 (by kernel_rfl) rfl) rfl (by decide) ((isGreat66 c x w4 (hx.bel hB)).mono fun e w' h => ⟨by rw [h.1, decide_eq_false (fun h => h hk1)], h.2⟩) fun w8 a B9 hF => ?_
    have sB9 := B9.size
    have hB := hB.trans (B9.mono hB.size)
    have m2 := m2.old B9
    have m3 := m3.old B9
    refine s_val hF (x_not rfl) (by decide) fun a hF => ?_
    refine s_val hF (x_move rfl) (by decide) fun a hF => ?_
    refine s_grd 8 hF rfl rfl rfl ?_
    refine s_val hF (x_ldW wide27 m3 rfl rfl) (by decide) fun a hF => ?_
    refine s_grd 8 hF rfl rfl rfl ?_
    refine s_callB [_] hF (enters_of Try.func66 (by kernel_rfl) rfl) rfl (by decide) ((isGreat66 d y w8 (hy.bel hB)).mono fun e w' h => ⟨by rw [h.1, decide_eq_true hk2], h.2⟩) fun w10 a B11 hF => ?_
    have sB11 := B11.size
    have hB := hB.trans (B11.mono hB.size)
    have m2 := m2.old B11
    have m3 := m3.old B11
    refine s_grd 8 hF rfl rfl rfl ?_
    refine s_val hF (x_not rfl) (by decide) fun a hF => ?_
    refine s_val hF (x_pick (b := true) rfl rfl) (by decide) fun a hF => ?_
    refine s_val hF (x_move rfl) (by decide) fun a hF => ?_
    refine s_grdn 13 hF rfl rfl (by decide) fun a hF => ?_
    refine s_grdn 13 hF rfl rfl (by decide) fun a hF => ?_
    refine s_grdn 13 hF rfl rfl (by decide) fun a hF => ?_
    refine s_val hF (x_pick (b := false) rfl rfl) (by decide) fun a hF => ?_
    refine s_val hF (x_assign rfl) (by decide) fun a hF => ?_
    refine s_end (hK4 _ _ ?_)
    refine wp_ret (res_slot hF rfl rfl ⟨_, rfl, ⟨false, rfl, fun h => absurd h (by decide), fun h => (hk2 h.2.1).elim⟩, hB⟩)
  · skip
    refine wp_rs fun K5 hK5 => ?_
    refine s_val hF (x_ldW wide27 m2 rfl rfl) (by decide) fun a hF => ?_
    refine s_callB [_] hF (enters_of Try.func66 (by kernel_rfl) rfl) rfl (by decide) ((isGreat66 c x w4 (hx.bel hB)).mono fun e w' h => ⟨by rw [h.1, decide_eq_false (fun h => h hk1)], h.2⟩) fun w12 a B13 hF => ?_
    have sB13 := B13.size
    have hB := hB.trans (B13.mono hB.size)
    have m2 := m2.old B13
    have m3 := m3.old B13
    refine s_val hF (x_not rfl) (by decide) fun a hF => ?_
    refine s_val hF (x_move rfl) (by decide) fun a hF => ?_
    refine s_grd 8 hF rfl rfl rfl ?_
    refine s_val hF (x_ldW wide27 m3 rfl rfl) (by decide) fun a hF => ?_
    refine s_grd 8 hF rfl rfl rfl ?_
    refine s_callB [_] hF (enters_of Try.func66 (by kernel_rfl) rfl) rfl (by decide) ((isGreat66 d y w12 (hy.bel hB)).mono fun e w' h => ⟨by rw [h.1, decide_eq_false (fun h => h hk2)], h.2⟩) fun w14 a B15 hF => ?_
    have sB15 := B15.size
    have hB := hB.trans (B15.mono hB.size)
    have m2 := m2.old B15
    have m3 := m3.old B15
    refine s_grd 8 hF rfl rfl rfl ?_
    refine s_val hF (x_not rfl) (by decide) fun a hF => ?_
    refine s_val hF (x_pick (b := true) rfl rfl) (by decide) fun a hF => ?_
    refine s_val hF (x_move rfl) (by decide) fun a hF => ?_
    refine s_grd 13 hF rfl rfl rfl ?_
    refine s_val hF (x_ldW wide27 m2 rfl rfl) (by decide) fun a hF => ?_
    refine s_grd 13 hF rfl rfl rfl ?_
    refine s_val hF (x_ldW wide27 m3 rfl rfl) (by decide) fun a hF => ?_
    refine s_grd 13 hF rfl rfl rfl ?_
    refine s_callR (R := fun v w' => ∃ b, v = .bool b ∧ (b = true ↔ sameP c.ess d.ess)) [_, _] hF (enters_of Try.func81 (by kernel_rfl) rfl) rfl (by decide) (same81 (c.size + 1) c d x y w14 (by omega) (hx.bel hB) (hy.bel hB) hfit) ?_
    rintro _ w16 a ⟨b16, rfl, h16⟩ B17 hF
    have sB17 := B17.size
    have hB := hB.trans (B17.mono hB.size)
    have m2 := m2.old B17
    have m3 := m3.old B17
    refine s_val hF (x_pick (b := true) rfl rfl) (by decide) fun a hF => ?_
    refine s_val hF (x_assign rfl) (by decide) fun a hF => ?_
    refine s_end (hK5 _ _ ?_)
    refine wp_ret (res_slot hF rfl rfl ⟨_, rfl, ⟨_, rfl, by rw [h16]; exact ⟨fun h => ⟨hk1, hk2, h⟩, fun h => h.2.2⟩⟩, hB⟩)
end Go.Proofs.Ytgpciphjhnabcaa
