/- Same. -/
import Derived.Test.YtaclncmkdpjnlaaLev6
import Derived.Test.YtaclncmkdpjnlaaLev1
import Derived.ProofKit
import Derived.Deep.Slices
import Derived.ChangeSame
import Derived.ChangeArms
import Derived.SizedLaws
import Derived.Deep.Strs
import Derived.Test.YtaclncmkdpjnlaaTerm15
namespace Go.Proofs.Ytaclncmkdpjnlaa
open Go.RowKit Go.Shelf
set_option linter.unusedVariables false
set_option linter.unusedSimpArgs false

def eqO : Option SL → Option SL → Prop
  | some s, some t => eqF s t
  | _, _ => False
def eqOs (os ps : List (Option SL)) : Prop := os.length = ps.length ∧ ∀ (i : Nat) o p, os[i]? = some o → ps[i]? = some p → eqO o p
def sameP : PT → PT → Prop
  | .var n, .var m => n = m
  | .sort o, .sort p => eqO o p
  | .cst s os, .cst t ps => s = t ∧ eqOs os ps
  | .odd k, .odd j => k = j
  | .two k a b, .two j c d => k = j ∧ sameP a c ∧ sameP b d
  | .lt a b c, .lt d e f => sameP a d ∧ sameP b e ∧ sameP c f
  | _, _ => False
def PT.fit : PT → Prop
  | .cst _ os => os.length ≤ 9223372036854775807
  | .two _ a b => a.fit ∧ b.fit
  | .lt a b c => a.fit ∧ b.fit ∧ c.fit
  | _ => True
theorem CT.fit_ess : ∀ {c : CT}, c.fit → c.ess.fit
  | .two _ a b _, h => ⟨CT.fit_ess h.1, CT.fit_ess h.2⟩
  | .lt a b c _, h => ⟨CT.fit_ess h.1, CT.fit_ess h.2.1, CT.fit_ess h.2.2⟩
  | .cst s ls _, h => by simp only [CT.ess, PT.fit, List.length_map]; exact h.2
  | .var .., _ => trivial
  | .sort .., _ => trivial
  | .odd .., _ => trivial
theorem PT.fit_kid {c k : CT} {i : Nat} (h : c.ess.fit) (hk : c.kids[i]? = some k) : k.ess.fit := by
  cases c with
  | two _ a b _ =>
    rcases i with _ | _ | i
    · simp [CT.kids] at hk; subst hk; exact h.1
    · simp [CT.kids] at hk; subst hk; exact h.2
    · simp [CT.kids] at hk
  | lt a b c _ =>
    rcases i with _ | _ | _ | i
    · simp [CT.kids] at hk; subst hk; exact h.1
    · simp [CT.kids] at hk; subst hk; exact h.2.1
    · simp [CT.kids] at hk; subst hk; exact h.2.2
    · simp [CT.kids] at hk
  | _ => simp [CT.kids] at hk
theorem TB.iff {w0 : World} {x y : C3} {la lb : Lv} {b : Bool} (h : TB w0 x y la lb eqF b) (hx : RL w0 x la) (hy : RL w0 y lb) : b = true ↔ eqO (slO la) (slO lb) := by
  by_cases ha : sndL la
  · by_cases hb : sndL lb
    · obtain ⟨s, h1, h2⟩ := sound_sl hx ha
      obtain ⟨t, h3, h4⟩ := sound_sl hy hb
      rw [h.2 s t h1 h3 h2 h4, slO_of hx h1 h2, slO_of hy h3 h4, decide_eq_true_iff]
      rfl
    · rw [h.1 (fun h' => hb h'.2), (slO_none hy).2 hb]
      cases slO la <;> simp [eqO]
  · rw [h.1 (fun h' => ha h'.1), (slO_none hx).2 ha]
    simp [eqO]
theorem same_rest {W : World} {A : Nat → Prop} : ∀ {c d : CT} {x y : C8}, RC W A c x → RC W A d y → x.k = y.k → (x.k ≠ 1 ∧ x.k ≠ 2 ∧ x.k ≠ 7) → (sameP c.ess d.ess ↔ c.kids.length = d.kids.length ∧ ∀ (i : Nat) a b, c.kids[i]? = some a → d.kids[i]? = some b → sameP a.ess b.ess)
  | .var .., _, x, y, h, h2, hk, h3 => by have := h.1; omega
  | .sort .., _, x, y, h, h2, hk, h3 => by have := h.1; omega
  | .cst .., _, x, y, h, h2, hk, h3 => by have := h.1; omega
  | _, .var .., x, y, h, h2, hk, h3 => by have := h2.1; omega
  | _, .sort .., x, y, h, h2, hk, h3 => by have := h2.1; omega
  | _, .cst .., x, y, h, h2, hk, h3 => by have := h2.1; omega
  | .odd k m, .odd j n, x, y, h, h2, hk, h3 => by
    have := h.1
    have := h2.1
    simp [CT.ess, sameP, CT.kids]
    omega
  | .odd k m, .two .., x, y, h, h2, hk, h3 => by simp [CT.ess, sameP, CT.kids]
  | .odd k m, .lt .., x, y, h, h2, hk, h3 => by simp [CT.ess, sameP, CT.kids]
  | .two .., .odd .., x, y, h, h2, hk, h3 => by simp [CT.ess, sameP, CT.kids]
  | .lt .., .odd .., x, y, h, h2, hk, h3 => by simp [CT.ess, sameP, CT.kids]
  | .two .., .lt .., x, y, h, h2, hk, h3 => by simp [CT.ess, sameP, CT.kids]
  | .lt .., .two .., x, y, h, h2, hk, h3 => by simp [CT.ess, sameP, CT.kids]
  | .two k a b m, .two j c d n, x, y, h, h2, hk, h3 => by
    have e1 := h.1
    have e2 := h2.1
    simp only [CT.ess, sameP, CT.kids]
    constructor
    · rintro ⟨_, g1, g2⟩
      refine ⟨rfl, fun i p q e3 e4 => ?_⟩
      rcases i with _ | _ | i
      · simp at e3 e4; subst e3 e4; exact g1
      · simp at e3 e4; subst e3 e4; exact g2
      · simp at e3
    · rintro ⟨_, g⟩
      exact ⟨by omega, g 0 a c rfl rfl, g 1 b d rfl rfl⟩
  | .lt a b c m, .lt d e f n, x, y, h, h2, hk, h3 => by
    simp only [CT.ess, sameP, CT.kids]
    constructor
    · rintro ⟨g1, g2, g3⟩
      refine ⟨rfl, fun i p q e3 e4 => ?_⟩
      rcases i with _ | _ | _ | i
      · simp at e3 e4; subst e3 e4; exact g1
      · simp at e3 e4; subst e3 e4; exact g2
      · simp at e3 e4; subst e3 e4; exact g3
      · simp at e3
    · rintro ⟨_, g⟩
      exact ⟨g 0 a d rfl rfl, g 1 b e rfl rfl, g 2 c f rfl rfl⟩

set_option maxRecDepth 100000 in
set_option maxHeartbeats 400000 in
theorem eqL116 (cs ds : List Lv) (v u : Value) (w0 : World) (hV : RVn w0 (fun k => k < w0.heap.size) v cs) (hU : RVn w0 (fun k => k < w0.heap.size) u ds) (hlen : cs.length ≤ 9223372036854775807) : Calls Try.prog 116 #[v, u, .func (.func 115) #[] #[]] w0 fun e w' => ∃ z, e = .returned z ∧ (∃ b, z = .bool b ∧ (b = true ↔ cs.length = ds.length ∧ ∀ (i : Nat) p q, cs[i]? = some p → ds[i]? = some q → eqO (slO p) (slO q))) ∧ Below w0.heap.size w0 w' := by
  obtain ⟨av, cv, hve, _⟩ := hV.form
  subst hve
  obtain ⟨au, cu, hue, _⟩ := hU.form
  subst hue
  have hB := Below.refl w0.heap.size w0
  have sB := hB.size
  refine calls_fs 32 [(0, .slice av cs.length cv), (1, .slice au ds.length cu), (2, .func (.func 115) #[] #[])] Try.func116 rfl rfl rfl rfl rfl fun a hF => ?_
  refine wp_rs fun K1 hK1 => ?_
  refine s_val hF (x_assign rfl) (by decide) fun a hF => ?_
  refine s_end (hK1 _ _ ?_)
  refine wp_seq_k fun K2 hK2 => ?_
  rcases (show cs.length ≠ ds.length ∨ cs.length = ds.length by omega) with hk1 | hk1
  · skip
    refine wp_rs fun K4 hK4 => ?_
    refine s_val hF (x_move rfl) (by decide) fun a hF => ?_
    refine s_val hF (x_len Try.underlying22 rfl) (by decide) fun a hF => ?_
    refine s_val hF (x_move rfl) (by decide) fun a hF => ?_
    refine s_val hF (x_len Try.underlying22 rfl) (by decide) fun a hF => ?_
    refine s_val hF (x_neq (b := true) (decide_eq_true (by omega)) rfl rfl) (by decide) fun a hF => ?_
    refine s_end (hK4 _ _ ?_)
    refine wp_if hF rfl ?_
    refine wp_rs fun K5 hK5 => ?_
    refine s_val hF (x_assign rfl) (by decide) fun a hF => ?_
    refine s_end (hK5 _ _ ?_)
    refine wp_ret (then_ret (res_slot hF rfl rfl ⟨_, rfl, ⟨false, rfl, fun h => absurd h (by decide), fun h => absurd h.1 hk1⟩, hB⟩))
  · skip
    refine wp_rs fun K6 hK6 => ?_
    refine s_val hF (x_move rfl) (by decide) fun a hF => ?_
    refine s_val hF (x_len Try.underlying22 rfl) (by decide) fun a hF => ?_
    refine s_val hF (x_move rfl) (by decide) fun a hF => ?_
    refine s_val hF (x_len Try.underlying22 rfl) (by decide) fun a hF => ?_
    refine s_val hF (x_neq (b := false) (decide_eq_false (by omega)) rfl rfl) (by decide) fun a hF => ?_
    refine s_end (hK6 _ _ ?_)
    refine wp_if hF rfl ?_
    refine wp_skip (hK2 _ _ ?_)
    refine wp_seq_k fun K7 hK7 => ?_
    refine wp_rs fun K8 hK8 => ?_
    refine s_val hF (x_move rfl) (by decide) fun a hF => ?_
    refine s_val hF (x_len Try.underlying22 rfl) (by decide) fun a hF => ?_
    refine s_val hF (x_move rfl) (by decide) fun a hF => ?_
    refine s_end (hK8 _ _ ?_)
    refine wp_block ?_
    refine wp_up cs.length (fun i a w => (∀ (j : Nat) p q, j < i → cs[j]? = some p → ds[j]? = some q → eqO (slO p) (slO q)) ∧ Below w0.heap.size w0 w ∧ Fs 32 a [(1, .slice au ds.length cu), (2, .func (.func 115) #[] #[]), (15, .slice av cs.length cv), (16, .int .i64 (cs.length : Int)), (17, .int .i64 (i : Int))]) ⟨(fun j p q h => absurd h (by omega)), hB, hF.sub _ rfl⟩ ?_
    clear hF hB
    rintro i a w hi ⟨hok, hB, hF⟩ K' hK'
    have sB := hB.size
    refine wp_rs fun K9 hK9 => ?_
    refine s_val hF (x_lss (b := decide (i < cs.length)) (decide_eq_decide.2 (by omega)) rfl rfl) (by decide) fun a hF => ?_
    refine s_end (hK9 _ _ ?_)
    refine wp_seq_k fun K10 hK10 => ?_
    refine wp_iff hF rfl (fun hc18 => ?_) (fun hc18 => ?_)
    · obtain ⟨b9, off9, c9, x, p, hve, hp, hrx, hAb, hbl, hrow⟩ := hV.row (i := i) (by omega)
      obtain ⟨b8, off8, c8, y, q, hue, hq, hry, hAb8, hbl8, hrow8⟩ := hU.row (i := i) (by omega)
      cases hve
      cases hue
      refine wp_skip (hK10 _ _ ?_)
      refine wp_seq_k fun K11 hK11 => ?_
      refine wp_block ?_
      refine wp_rs fun K12 hK12 => ?_
      refine s_val hF (x_move rfl) (by decide) fun a hF => ?_
      refine s_val hF (x_ixa rfl rfl (m_ixsK i Try.underlying22 el22.size rfl (by omega))) (by decide) fun a hF => ?_
      refine s_val hF (x_ldA wide24 (hrow _ (hB.block _ hbl)) rfl rfl) (by decide) fun a hF => ?_
      refine s_alloc hF (by decide) zero24 fun w2 b8 a eb8 m8 B3 zb8 hF => ?_
      have sB3 := B3.size
      have hB := hB.trans (B3.mono hB.size)
      refine s_val hF (x_assign rfl) (by decide) fun a hF => ?_
      refine s_putW hF rfl rfl (size_wide wide24) m8 rfl (one_lc (RLn.rl hrx).one1) fun w6 m8 o7 => ?_
      have so7 := o7.size
      have hB := hB.trans (o7.below (by omega))
      refine s_end (hK12 _ _ ?_)
      refine wp_rs fun K13 hK13 => ?_
      refine s_val hF (x_move rfl) (by decide) fun a hF => ?_
      refine s_val hF (x_move rfl) (by decide) fun a hF => ?_
      refine s_val hF (x_ixa rfl rfl (m_ixsK i Try.underlying22 el22.size rfl (by omega))) (by decide) fun a hF => ?_
      refine s_val hF (x_ldA wide24 (hrow8 _ (hB.block _ hbl8)) rfl rfl) (by decide) fun a hF => ?_
      refine s_alloc hF (by decide) zero24 fun w8 b9 a eb9 m9 B9 zb9 hF => ?_
      have sB9 := B9.size
      have hB := hB.trans (B9.mono hB.size)
      have m8 := m8.old B9
      refine s_putW hF rfl rfl (size_wide wide24) m9 rfl (one_lc (RLn.rl hry).one1) fun w12 m9 o13 => ?_
      have so13 := o13.size
      have hB := hB.trans (o13.below (by omega))
      have m8 := m8.only o13 (by omega)
      refine s_end (hK13 _ _ ?_)
      refine wp_rs fun K14 hK14 => ?_
      refine s_val hF (x_move rfl) (by decide) fun a hF => ?_
      refine s_val hF (x_ldW wide24 m8 rfl rfl) (by decide) fun a hF => ?_
      refine s_val hF (x_ldW wide24 m9 rfl rfl) (by decide) fun a hF => ?_
      refine s_callC (R := fun v w' => (∃ b, v = .bool b ∧ (b = true ↔ eqO (slO p) (slO q))) ∧ Below w12.heap.size w12 w') (lb := []) hF [_, _] rfl (enters_of Try.func115 (by kernel_rfl) rfl) rfl (by decide) ((Equal23 x y p q w12 (hrx.keep hB.size (fun k hk _ => hB.block k hk)).rl (hry.keep hB.size (fun k hk _ => hB.block k hk)).rl).mono fun e w' ⟨v, h1, ⟨b, h2, h3⟩, h4⟩ => ⟨v, h1, ⟨b, h2, h3.iff (hrx.keep hB.size (fun k hk _ => hB.block k hk)).rl (hry.keep hB.size (fun k hk _ => hB.block k hk)).rl⟩, h4⟩) ?_
      rintro _ w14 a ⟨⟨b29, rfl, h29⟩, B15⟩ hF
      have sB15 := B15.size
      have hB := hB.trans (B15.mono hB.size)
      have m8 := m8.old B15
      have m9 := m9.old B15
      refine s_val hF (x_not rfl) (by decide) fun a hF => ?_
      refine s_end (hK14 _ _ ?_)
      refine wp_ifb hF rfl (fun hc30 => ?_) (fun hc30 => ?_)
      · have hn29 : ¬ (eqO (slO p) (slO q)) := fun h => by have := h29.2 h; subst this; simp at hc30
        refine wp_rs fun K15 hK15 => ?_
        refine s_val hF (x_assign rfl) (by decide) fun a hF => ?_
        refine s_end (hK15 _ _ ?_)
        refine wp_ret (inb_ret (then_ret (then_ret (inb_ret (then_ret (res_slot hF rfl rfl ⟨_, rfl, ⟨false, rfl, fun h => absurd h (by decide), fun h => (hn29 (h.2 i p q hp hq)).elim⟩, hB⟩))))))
      · obtain rfl : b29 = true := by simpa using hc30
        have h30 := h29.1 rfl
        refine wp_skip (hK11 _ _ ?_)
        refine wp_region_lit ?_
        refine s_val hF (x_addn (i + 1) (by omega) (by omega) rfl rfl) (by decide) fun a hF => ?_
        refine s_val hF (x_move rfl) (by decide) fun a hF => ?_
        refine s_end (hK' _ _ (by omega) ⟨(fun j p' q' hj e1 e2 => by rcases Nat.lt_or_ge j i with h | h; (· exact hok j p' q' h e1 e2); (· obtain rfl : j = i := (by omega); rw [hp] at e1; rw [hq] at e2; cases e1; cases e2; exact h30)), hB, hF.sub _ rfl⟩)
    · obtain rfl : i = cs.length := by omega
      refine wp_exit (hK7 _ _ ?_)
      refine wp_rs fun K16 hK16 => ?_
      refine s_val hF (x_assign rfl) (by decide) fun a hF => ?_
      refine s_end (hK16 _ _ ?_)
      refine wp_ret (res_slot hF rfl rfl ⟨_, rfl, ⟨true, rfl, fun _ => ⟨hk1, fun j p q e1 e2 => hok j p q (List.getElem?_eq_some_iff.1 e1).1 e1 e2⟩, fun _ => rfl⟩, hB⟩)

set_option maxRecDepth 100000 in
set_option maxHeartbeats 400000 in
theorem eqT117 (cs ds : List CT) (v u : Value) (w0 : World) (hV : RK w0 (fun k => k < w0.heap.size) v cs) (hU : RK w0 (fun k => k < w0.heap.size) u ds) (hlen : cs.length ≤ 9223372036854775807) (HS : ∀ (p q : CT) (x y : C8) (w : World) (i : Nat), cs[i]? = some p → ds[i]? = some q → RC w (fun k => k < w.heap.size) p x → RC w (fun k => k < w.heap.size) q y → Calls Try.prog 76 #[tv x, tv y] w fun e w' => ∃ z, e = .returned z ∧ (∃ b, z = .bool b ∧ (b = true ↔ sameP p.ess q.ess)) ∧ Below w.heap.size w w') : Calls Try.prog 117 #[v, u, .func (.func 76) #[] #[]] w0 fun e w' => ∃ z, e = .returned z ∧ (∃ b, z = .bool b ∧ (b = true ↔ cs.length = ds.length ∧ ∀ (i : Nat) p q, cs[i]? = some p → ds[i]? = some q → sameP p.ess q.ess)) ∧ Below w0.heap.size w0 w' := by
  obtain ⟨av, cv, hve, _⟩ := hV.form
  subst hve
  obtain ⟨au, cu, hue, _⟩ := hU.form
  subst hue
  have hB := Below.refl w0.heap.size w0
  have sB := hB.size
  refine calls_fs 32 [(0, .slice av cs.length cv), (1, .slice au ds.length cu), (2, .func (.func 76) #[] #[])] Try.func117 rfl rfl rfl rfl rfl fun a hF => ?_
  refine wp_rs fun K1 hK1 => ?_
  refine s_val hF (x_assign rfl) (by decide) fun a hF => ?_
  refine s_end (hK1 _ _ ?_)
  refine wp_seq_k fun K2 hK2 => ?_
  rcases (show cs.length ≠ ds.length ∨ cs.length = ds.length by omega) with hk1 | hk1
  · skip
    refine wp_rs fun K4 hK4 => ?_
    refine s_val hF (x_move rfl) (by decide) fun a hF => ?_
    refine s_val hF (x_len Try.underlying25 rfl) (by decide) fun a hF => ?_
    refine s_val hF (x_move rfl) (by decide) fun a hF => ?_
    refine s_val hF (x_len Try.underlying25 rfl) (by decide) fun a hF => ?_
    refine s_val hF (x_neq (b := true) (decide_eq_true (by omega)) rfl rfl) (by decide) fun a hF => ?_
    refine s_end (hK4 _ _ ?_)
    refine wp_if hF rfl ?_
    refine wp_rs fun K5 hK5 => ?_
    refine s_val hF (x_assign rfl) (by decide) fun a hF => ?_
    refine s_end (hK5 _ _ ?_)
    refine wp_ret (then_ret (res_slot hF rfl rfl ⟨_, rfl, ⟨false, rfl, fun h => absurd h (by decide), fun h => absurd h.1 hk1⟩, hB⟩))
  · skip
    refine wp_rs fun K6 hK6 => ?_
    refine s_val hF (x_move rfl) (by decide) fun a hF => ?_
    refine s_val hF (x_len Try.underlying25 rfl) (by decide) fun a hF => ?_
    refine s_val hF (x_move rfl) (by decide) fun a hF => ?_
    refine s_val hF (x_len Try.underlying25 rfl) (by decide) fun a hF => ?_
    refine s_val hF (x_neq (b := false) (decide_eq_false (by omega)) rfl rfl) (by decide) fun a hF => ?_
    refine s_end (hK6 _ _ ?_)
    refine wp_if hF rfl ?_
    refine wp_skip (hK2 _ _ ?_)
    refine wp_seq_k fun K7 hK7 => ?_
    refine wp_rs fun K8 hK8 => ?_
    refine s_val hF (x_move rfl) (by decide) fun a hF => ?_
    refine s_val hF (x_len Try.underlying25 rfl) (by decide) fun a hF => ?_
    refine s_val hF (x_move rfl) (by decide) fun a hF => ?_
    refine s_end (hK8 _ _ ?_)
    refine wp_block ?_
    refine wp_up cs.length (fun i a w => (∀ (j : Nat) p q, j < i → cs[j]? = some p → ds[j]? = some q → sameP p.ess q.ess) ∧ Below w0.heap.size w0 w ∧ Fs 32 a [(1, .slice au ds.length cu), (2, .func (.func 76) #[] #[]), (15, .slice av cs.length cv), (16, .int .i64 (cs.length : Int)), (17, .int .i64 (i : Int))]) ⟨(fun j p q h => absurd h (by omega)), hB, hF.sub _ rfl⟩ ?_
    clear hF hB
    rintro i a w hi ⟨hok, hB, hF⟩ K' hK'
    have sB := hB.size
    refine wp_rs fun K9 hK9 => ?_
    refine s_val hF (x_lss (b := decide (i < cs.length)) (decide_eq_decide.2 (by omega)) rfl rfl) (by decide) fun a hF => ?_
    refine s_end (hK9 _ _ ?_)
    refine wp_seq_k fun K10 hK10 => ?_
    refine wp_iff hF rfl (fun hc18 => ?_) (fun hc18 => ?_)
    · obtain ⟨b9, off9, c9, x, p, hve, hp, hrx, hAb, hbl, hrow⟩ := hV.row (i := i) (by omega)
      obtain ⟨b8, off8, c8, y, q, hue, hq, hry, hAb8, hbl8, hrow8⟩ := hU.row (i := i) (by omega)
      cases hve
      cases hue
      refine wp_skip (hK10 _ _ ?_)
      refine wp_seq_k fun K11 hK11 => ?_
      refine wp_block ?_
      refine wp_rs fun K12 hK12 => ?_
      refine s_val hF (x_move rfl) (by decide) fun a hF => ?_
      refine s_val hF (x_ixa rfl rfl (m_ixsK i Try.underlying25 el25.size rfl (by omega))) (by decide) fun a hF => ?_
      refine s_val hF (x_ldA wide27 (hrow _ (hB.block _ hbl)) rfl rfl) (by decide) fun a hF => ?_
      refine s_alloc hF (by decide) zero27 fun w2 b8 a eb8 m8 B3 zb8 hF => ?_
      have sB3 := B3.size
      have hB := hB.trans (B3.mono hB.size)
      refine s_val hF (x_assign rfl) (by decide) fun a hF => ?_
      refine s_putW hF rfl rfl (size_wide wide27) m8 rfl hrx.one fun w6 m8 o7 => ?_
      have so7 := o7.size
      have hB := hB.trans (o7.below (by omega))
      refine s_end (hK12 _ _ ?_)
      refine wp_rs fun K13 hK13 => ?_
      refine s_val hF (x_move rfl) (by decide) fun a hF => ?_
      refine s_val hF (x_move rfl) (by decide) fun a hF => ?_
      refine s_val hF (x_ixa rfl rfl (m_ixsK i Try.underlying25 el25.size rfl (by omega))) (by decide) fun a hF => ?_
      refine s_val hF (x_ldA wide27 (hrow8 _ (hB.block _ hbl8)) rfl rfl) (by decide) fun a hF => ?_
      refine s_alloc hF (by decide) zero27 fun w8 b9 a eb9 m9 B9 zb9 hF => ?_
      have sB9 := B9.size
      have hB := hB.trans (B9.mono hB.size)
      have m8 := m8.old B9
      refine s_putW hF rfl rfl (size_wide wide27) m9 rfl hry.one fun w12 m9 o13 => ?_
      have so13 := o13.size
      have hB := hB.trans (o13.below (by omega))
      have m8 := m8.only o13 (by omega)
      refine s_end (hK13 _ _ ?_)
      refine wp_rs fun K14 hK14 => ?_
      refine s_val hF (x_move rfl) (by decide) fun a hF => ?_
      refine s_val hF (x_ldW wide27 m8 rfl rfl) (by decide) fun a hF => ?_
      refine s_val hF (x_ldW wide27 m9 rfl rfl) (by decide) fun a hF => ?_
      refine s_callC (R := fun v w' => (∃ b, v = .bool b ∧ (b = true ↔ sameP p.ess q.ess)) ∧ Below w12.heap.size w12 w') (lb := []) hF [_, _] rfl (enters_of Try.func76 (by kernel_rfl) rfl) rfl (by decide) (HS p q x y w12 i hp hq (hrx.bel hB) (hry.bel hB)) ?_
      rintro _ w14 a ⟨⟨b29, rfl, h29⟩, B15⟩ hF
      have sB15 := B15.size
      have hB := hB.trans (B15.mono hB.size)
      have m8 := m8.old B15
      have m9 := m9.old B15
      refine s_val hF (x_not rfl) (by decide) fun a hF => ?_
      refine s_end (hK14 _ _ ?_)
      refine wp_ifb hF rfl (fun hc30 => ?_) (fun hc30 => ?_)
      · have hn29 : ¬ (sameP p.ess q.ess) := fun h => by have := h29.2 h; subst this; simp at hc30
        refine wp_rs fun K15 hK15 => ?_
        refine s_val hF (x_assign rfl) (by decide) fun a hF => ?_
        refine s_end (hK15 _ _ ?_)
        refine wp_ret (inb_ret (then_ret (then_ret (inb_ret (then_ret (res_slot hF rfl rfl ⟨_, rfl, ⟨false, rfl, fun h => absurd h (by decide), fun h => (hn29 (h.2 i p q hp hq)).elim⟩, hB⟩))))))
      · obtain rfl : b29 = true := by simpa using hc30
        have h30 := h29.1 rfl
        refine wp_skip (hK11 _ _ ?_)
        refine wp_region_lit ?_
        refine s_val hF (x_addn (i + 1) (by omega) (by omega) rfl rfl) (by decide) fun a hF => ?_
        refine s_val hF (x_move rfl) (by decide) fun a hF => ?_
        refine s_end (hK' _ _ (by omega) ⟨(fun j p' q' hj e1 e2 => by rcases Nat.lt_or_ge j i with h | h; (· exact hok j p' q' h e1 e2); (· obtain rfl : j = i := (by omega); rw [hp] at e1; rw [hq] at e2; cases e1; cases e2; exact h30)), hB, hF.sub _ rfl⟩)
    · obtain rfl : i = cs.length := by omega
      refine wp_exit (hK7 _ _ ?_)
      refine wp_rs fun K16 hK16 => ?_
      refine s_val hF (x_assign rfl) (by decide) fun a hF => ?_
      refine s_end (hK16 _ _ ?_)
      refine wp_ret (res_slot hF rfl rfl ⟨_, rfl, ⟨true, rfl, fun _ => ⟨hk1, fun j p q e1 e2 => hok j p q (List.getElem?_eq_some_iff.1 e1).1 e1 e2⟩, fun _ => rfl⟩, hB⟩)

theorem kd_same {W : World} {A : Nat → Prop} {c d : CT} {x y : C8} (hx : RC W A c x) (hy : RC W A d y) (h : sameP c.ess d.ess) : x.k = y.k := by
  rw [hx.kd, hy.kd]
  cases c <;> cases d <;> simp only [CT.ess, sameP, CT.kd] at h ⊢ <;> first | exact h.elim | exact h.1 | exact h

set_option maxRecDepth 100000 in
set_option maxHeartbeats 400000 in
theorem same81 : ∀ (N : Nat) (c d : CT) (x y : C8) (w0 : World), c.size < N → RC w0 (fun k => k < w0.heap.size) c x → RC w0 (fun k => k < w0.heap.size) d y → c.ess.fit → Calls Try.prog 76 #[tv x, tv y] w0 fun e w' => ∃ z, e = .returned z ∧ (∃ b, z = .bool b ∧ (b = true ↔ sameP c.ess d.ess)) ∧ Below w0.heap.size w0 w' := by
  intro N
  induction N with
  | zero => intro c d x y w0 h; omega
  | succ N ih =>
  intro c d x y w0 hN hx hy hfit
  have h3 := c.kids_le
  have hB := Below.refl w0.heap.size w0
  have sB := hB.size
  refine calls_fs 45 [(0, tv x), (1, tv y)] Try.func76 rfl rfl rfl rfl rfl fun a hF => ?_
  refine wp_rs fun K1 hK1 => ?_
  refine s_box (tc x) hF (by decide) rfl rfl fun w2 b2 a eb2 m2 B3 zb2 hF => ?_
  have sB3 := B3.size
  have hB := hB.trans (B3.mono hB.size)
  refine s_box (tc y) hF (by decide) rfl rfl fun w4 b3 a eb3 m3 B5 zb3 hF => ?_
  have sB5 := B5.size
  have hB := hB.trans (B5.mono hB.size)
  have m2 := m2.old B5
  refine s_val hF (x_assign rfl) (by decide) fun a hF => ?_
  refine s_end (hK1 _ _ ?_)
  refine wp_seq_k fun K2 hK2 => ?_
  rcases (show x.k ≠ y.k ∨ (x.k = 1 ∧ x.k = y.k) ∨ (x.k = 2 ∧ x.k = y.k) ∨ (x.k = 7 ∧ x.k = y.k) ∨ ((x.k ≠ 1 ∧ x.k ≠ 2 ∧ x.k ≠ 7) ∧ x.k = y.k) by omega) with hk | hk | hk | hk | hk
  · skip
    refine wp_rs fun K4 hK4 => ?_
    refine s_val hF (x_fa0 fa27_0 rfl) (by decide) fun a hF => ?_
    refine s_val hF (x_load rfl (m_load flat3 (m2.cell (j := 0) rfl))) (by decide) fun a hF => ?_
    refine s_val hF (x_fa0 fa27_0 rfl) (by decide) fun a hF => ?_
    refine s_val hF (x_load rfl (m_load flat3 (m3.cell (j := 0) rfl))) (by decide) fun a hF => ?_
    refine s_val hF (x_neq (b := true) (decide_eq_true (by omega)) rfl rfl) (by decide) fun a hF => ?_
    refine s_end (hK4 _ _ ?_)
    refine wp_if hF rfl ?_
    refine wp_rs fun K5 hK5 => ?_
    refine s_val hF (x_assign rfl) (by decide) fun a hF => ?_
    refine s_end (hK5 _ _ ?_)
    refine wp_ret (then_ret (res_slot hF rfl rfl ⟨_, rfl, ⟨false, rfl, fun h => absurd h (by decide), fun h => (hk (kd_same hx hy h)).elim⟩, hB⟩))
  · skip
    refine wp_rs fun K6 hK6 => ?_
    refine s_val hF (x_fa0 fa27_0 rfl) (by decide) fun a hF => ?_
    refine s_val hF (x_load rfl (m_load flat3 (m2.cell (j := 0) rfl))) (by decide) fun a hF => ?_
    refine s_val hF (x_fa0 fa27_0 rfl) (by decide) fun a hF => ?_
    refine s_val hF (x_load rfl (m_load flat3 (m3.cell (j := 0) rfl))) (by decide) fun a hF => ?_
    refine s_val hF (x_neq (b := false) (decide_eq_false (by omega)) rfl rfl) (by decide) fun a hF => ?_
    refine s_end (hK6 _ _ ?_)
    refine wp_if hF rfl ?_
    refine wp_skip (hK2 _ _ ?_)
    refine wp_seq_k fun K7 hK7 => ?_
    refine wp_rs fun K8 hK8 => ?_
    refine s_val hF (x_fa0 fa27_0 rfl) (by decide) fun a hF => ?_
    refine s_val hF (x_load rfl (m_load flat3 (m2.cell (j := 0) rfl))) (by decide) fun a hF => ?_
    refine s_end (hK8 _ _ ?_)
    refine wp_block ?_
    refine wp_rs fun K9 hK9 => ?_
    refine s_val hF (x_eql (b := true) (decide_eq_true (by omega)) rfl rfl) (by decide) fun a hF => ?_
    refine s_val hF (x_assign rfl) (by decide) fun a hF => ?_
    refine s_end (hK9 _ _ ?_)
    refine wp_if hF rfl ?_
    refine wp_rs fun K10 hK10 => ?_
    refine s_val hF (x_fa0 fa27_1 rfl) (by decide) fun a hF => ?_
    refine s_val hF (x_load rfl (m_load flat3 (m2.cell (j := 1) rfl))) (by decide) fun a hF => ?_
    refine s_val hF (x_fa0 fa27_1 rfl) (by decide) fun a hF => ?_
    refine s_val hF (x_load rfl (m_load flat3 (m3.cell (j := 1) rfl))) (by decide) fun a hF => ?_
    refine s_val hF (x_eql rfl rfl rfl) (by decide) fun a hF => ?_
    refine s_val hF (x_assign rfl) (by decide) fun a hF => ?_
    refine s_end (hK10 _ _ ?_)
    obtain ⟨n1, m1_, rfl⟩ := hx.var_of hk.1
    obtain ⟨n2, m2_, rfl⟩ := hy.var_of (by omega)
    have hn1 : x.n = n1 := hx.2.1
    have hn2 : y.n = n2 := hy.2.1
    refine wp_ret (inb_ret (then_ret (res_slot hF rfl rfl ⟨_, rfl, ⟨_, rfl, by rw [decide_eq_true_iff, hn1, hn2]; rfl⟩, hB⟩)))
  · skip
    refine wp_rs fun K11 hK11 => ?_
    refine s_val hF (x_fa0 fa27_0 rfl) (by decide) fun a hF => ?_
    refine s_val hF (x_load rfl (m_load flat3 (m2.cell (j := 0) rfl))) (by decide) fun a hF => ?_
    refine s_val hF (x_fa0 fa27_0 rfl) (by decide) fun a hF => ?_
    refine s_val hF (x_load rfl (m_load flat3 (m3.cell (j := 0) rfl))) (by decide) fun a hF => ?_
    refine s_val hF (x_neq (b := false) (decide_eq_false (by omega)) rfl rfl) (by decide) fun a hF => ?_
    refine s_end (hK11 _ _ ?_)
    refine wp_if hF rfl ?_
    refine wp_skip (hK2 _ _ ?_)
    refine wp_seq_k fun K12 hK12 => ?_
    refine wp_rs fun K13 hK13 => ?_
    refine s_val hF (x_fa0 fa27_0 rfl) (by decide) fun a hF => ?_
    refine s_val hF (x_load rfl (m_load flat3 (m2.cell (j := 0) rfl))) (by decide) fun a hF => ?_
    refine s_end (hK13 _ _ ?_)
    refine wp_block ?_
    refine wp_rs fun K14 hK14 => ?_
    refine s_val hF (x_eql (b := false) (decide_eq_false (by omega)) rfl rfl) (by decide) fun a hF => ?_
    refine s_val hF (x_assign rfl) (by decide) fun a hF => ?_
    refine s_end (hK14 _ _ ?_)
    refine wp_if hF rfl ?_
    refine wp_rs fun K15 hK15 => ?_
    refine s_val hF (x_eql (b := true) (decide_eq_true (by omega)) rfl rfl) (by decide) fun a hF => ?_
    refine s_val hF (x_assign rfl) (by decide) fun a hF => ?_
    refine s_end (hK15 _ _ ?_)
    refine wp_if hF rfl ?_
    refine wp_rs fun K16 hK16 => ?_
    refine s_val hF (x_fa0 fa27_3 rfl) (by decide) fun a hF => ?_
    refine s_val hF (x_load rfl (m_loadP (vs := [_, _, _]) wide24 m2 rfl)) (by decide) fun a hF => ?_
    refine s_val hF (x_fa0 fa27_3 rfl) (by decide) fun a hF => ?_
    refine s_val hF (x_load rfl (m_loadP (vs := [_, _, _]) wide24 m3 rfl)) (by decide) fun a hF => ?_
    obtain ⟨l, q1, rfl⟩ := hx.sort_of hk.1
    obtain ⟨l2, q2, rfl⟩ := hy.sort_of (by omega)
    have hl1 : RLn w0 _ x.l l := hx.2.1
    have hl2 : RLn w0 _ y.l l2 := hy.2.1
    refine s_callR (R := fun v w' => ∃ b, v = .bool b ∧ (b = true ↔ eqO (slO l) (slO l2))) [_, _] hF (enters_of Try.func115 (by kernel_rfl) rfl) rfl (by decide) ((Equal23 x.l y.l l l2 w4 (hl1.keep hB.size (fun k hk _ => hB.block k hk)).rl (hl2.keep hB.size (fun k hk _ => hB.block k hk)).rl).mono fun e w' ⟨v, h1, ⟨b, h2, h4⟩, h5⟩ => ⟨v, h1, ⟨b, h2, h4.iff (hl1.keep hB.size (fun k hk _ => hB.block k hk)).rl (hl2.keep hB.size (fun k hk _ => hB.block k hk)).rl⟩, h5⟩) ?_
    rintro _ w6 a ⟨b25, rfl, h25⟩ B7 hF
    have sB7 := B7.size
    have hB := hB.trans (B7.mono hB.size)
    have m2 := m2.old B7
    have m3 := m3.old B7
    refine s_val hF (x_assign rfl) (by decide) fun a hF => ?_
    refine s_end (hK16 _ _ ?_)
    refine wp_ret (inb_ret (then_ret (res_slot hF rfl rfl ⟨_, rfl, ⟨_, rfl, h25⟩, hB⟩)))
  · skip
    refine wp_rs fun K17 hK17 => ?_
    refine s_val hF (x_fa0 fa27_0 rfl) (by decide) fun a hF => ?_
    refine s_val hF (x_load rfl (m_load flat3 (m2.cell (j := 0) rfl))) (by decide) fun a hF => ?_
    refine s_val hF (x_fa0 fa27_0 rfl) (by decide) fun a hF => ?_
    refine s_val hF (x_load rfl (m_load flat3 (m3.cell (j := 0) rfl))) (by decide) fun a hF => ?_
    refine s_val hF (x_neq (b := false) (decide_eq_false (by omega)) rfl rfl) (by decide) fun a hF => ?_
    refine s_end (hK17 _ _ ?_)
    refine wp_if hF rfl ?_
    refine wp_skip (hK2 _ _ ?_)
    refine wp_seq_k fun K18 hK18 => ?_
    refine wp_rs fun K19 hK19 => ?_
    refine s_val hF (x_fa0 fa27_0 rfl) (by decide) fun a hF => ?_
    refine s_val hF (x_load rfl (m_load flat3 (m2.cell (j := 0) rfl))) (by decide) fun a hF => ?_
    refine s_end (hK19 _ _ ?_)
    refine wp_block ?_
    refine wp_rs fun K20 hK20 => ?_
    refine s_val hF (x_eql (b := false) (decide_eq_false (by omega)) rfl rfl) (by decide) fun a hF => ?_
    refine s_val hF (x_assign rfl) (by decide) fun a hF => ?_
    refine s_end (hK20 _ _ ?_)
    refine wp_if hF rfl ?_
    refine wp_rs fun K21 hK21 => ?_
    refine s_val hF (x_eql (b := false) (decide_eq_false (by omega)) rfl rfl) (by decide) fun a hF => ?_
    refine s_val hF (x_assign rfl) (by decide) fun a hF => ?_
    refine s_end (hK21 _ _ ?_)
    refine wp_if hF rfl ?_
    refine wp_rs fun K22 hK22 => ?_
    refine s_val hF (x_eql (b := true) (decide_eq_true (by omega)) rfl rfl) (by decide) fun a hF => ?_
    refine s_val hF (x_assign rfl) (by decide) fun a hF => ?_
    refine s_end (hK22 _ _ ?_)
    refine wp_if hF rfl ?_
    by_cases hst : x.s = y.s
    · obtain ⟨s1, ls1, m1_, rfl⟩ := hx.cst_of hk.1
      obtain ⟨s2, ls2, m2_, rfl⟩ := hy.cst_of (by omega)
      have hs1 : x.s = s1 := hx.2.1
      have hs2 : y.s = s2 := hy.2.1
      have hv1 : RVn w0 _ x.ls ls1 := hx.2.2.1
      have hv2 : RVn w0 _ y.ls ls2 := hy.2.2.1
      have hfl : ls1.length ≤ 9223372036854775807 := by have := hfit; simp only [CT.ess, PT.fit, List.length_map] at this; exact this
      refine wp_rs fun K24 hK24 => ?_
      refine s_val hF (x_fa0 fa27_2 rfl) (by decide) fun a hF => ?_
      refine s_val hF (x_load rfl (m_load flat9 (m2.cell (j := 2) rfl))) (by decide) fun a hF => ?_
      refine s_val hF (x_fa0 fa27_2 rfl) (by decide) fun a hF => ?_
      refine s_val hF (x_load rfl (m_load flat9 (m3.cell (j := 2) rfl))) (by decide) fun a hF => ?_
      refine s_val hF (x_eqS (b := true) (decide_eq_true hst) rfl rfl) (by decide) fun a hF => ?_
      refine s_val hF (x_move rfl) (by decide) fun a hF => ?_
      refine s_grd 33 hF rfl rfl rfl ?_
      refine s_val hF (x_fa0 fa27_4 rfl) (by decide) fun a hF => ?_
      refine s_grd 33 hF rfl rfl rfl ?_
      refine s_val hF (x_load rfl (m_load flat22 (m2.cell (j := 6) rfl))) (by decide) fun a hF => ?_
      refine s_grd 33 hF rfl rfl rfl ?_
      refine s_val hF (x_fa0 fa27_4 rfl) (by decide) fun a hF => ?_
      refine s_grd 33 hF rfl rfl rfl ?_
      refine s_val hF (x_load rfl (m_load flat22 (m3.cell (j := 6) rfl))) (by decide) fun a hF => ?_
      refine s_grd 33 hF rfl rfl rfl ?_
      refine s_callR (R := fun v w' => ∃ b, v = .bool b ∧ (b = true ↔ ls1.length = ls2.length ∧ ∀ (i : Nat) p q, ls1[i]? = some p → ls2[i]? = some q → eqO (slO p) (slO q))) [_, _, _] hF (enters_of Try.func116 (by kernel_rfl) rfl) rfl (by decide) (eqL116 ls1 ls2 _ _ w4 ((hv1.keep hB.size (fun k hk _ => hB.block k hk)).mono (fun k hk => by omega)) ((hv2.keep hB.size (fun k hk _ => hB.block k hk)).mono (fun k hk => by omega)) hfl) ?_
      rintro _ w8 a ⟨b38, rfl, h38⟩ B9 hF
      have sB9 := B9.size
      have hB := hB.trans (B9.mono hB.size)
      have m2 := m2.old B9
      have m3 := m3.old B9
      refine s_val hF (x_pick (b := true) rfl rfl) (by decide) fun a hF => ?_
      refine s_val hF (x_assign rfl) (by decide) fun a hF => ?_
      refine s_end (hK24 _ _ ?_)
      refine wp_ret (inb_ret (then_ret (res_slot hF rfl rfl ⟨_, rfl, ⟨_, rfl, by rw [h38]; simp only [CT.ess, sameP, eqOs, List.length_map]; exact ⟨fun h => ⟨by rw [← hs1, ← hs2]; exact hst, h.1, fun i o p e1 e2 => (by rw [List.getElem?_map] at e1 e2; obtain ⟨q1, e3, rfl⟩ := Option.map_eq_some_iff.1 e1; obtain ⟨q2, e4, rfl⟩ := Option.map_eq_some_iff.1 e2; exact h.2 i q1 q2 e3 e4)⟩, fun h => ⟨h.2.1, fun i p q e1 e2 => h.2.2 i (slO p) (slO q) (by rw [List.getElem?_map, e1]; rfl) (by rw [List.getElem?_map, e2]; rfl)⟩⟩⟩, hB⟩)))
    · obtain ⟨s1, ls1, m1_, rfl⟩ := hx.cst_of hk.1
      obtain ⟨s2, ls2, m2_, rfl⟩ := hy.cst_of (by omega)
      have hs1 : x.s = s1 := hx.2.1
      have hs2 : y.s = s2 := hy.2.1
      have hv1 : RVn w0 _ x.ls ls1 := hx.2.2.1
      have hv2 : RVn w0 _ y.ls ls2 := hy.2.2.1
      have hfl : ls1.length ≤ 9223372036854775807 := by have := hfit; simp only [CT.ess, PT.fit, List.length_map] at this; exact this
      refine wp_rs fun K25 hK25 => ?_
      refine s_val hF (x_fa0 fa27_2 rfl) (by decide) fun a hF => ?_
      refine s_val hF (x_load rfl (m_load flat9 (m2.cell (j := 2) rfl))) (by decide) fun a hF => ?_
      refine s_val hF (x_fa0 fa27_2 rfl) (by decide) fun a hF => ?_
      refine s_val hF (x_load rfl (m_load flat9 (m3.cell (j := 2) rfl))) (by decide) fun a hF => ?_
      refine s_val hF (x_eqS (b := false) (decide_eq_false hst) rfl rfl) (by decide) fun a hF => ?_
      refine s_val hF (x_move rfl) (by decide) fun a hF => ?_
      refine s_grdn 33 hF rfl rfl (by decide) fun a hF => ?_
      refine s_grdn 33 hF rfl rfl (by decide) fun a hF => ?_
      refine s_grdn 33 hF rfl rfl (by decide) fun a hF => ?_
      refine s_grdn 33 hF rfl rfl (by decide) fun a hF => ?_
      refine s_grdn 33 hF rfl rfl (by decide) fun a hF => ?_
      refine s_val hF (x_pick (b := false) rfl rfl) (by decide) fun a hF => ?_
      refine s_val hF (x_assign rfl) (by decide) fun a hF => ?_
      refine s_end (hK25 _ _ ?_)
      refine wp_ret (inb_ret (then_ret (res_slot hF rfl rfl ⟨_, rfl, ⟨false, rfl, fun h => absurd h (by decide), fun h => (hst (by rw [hs1, hs2]; exact h.1)).elim⟩, hB⟩)))
  · have hk : (x.k ≠ 1 ∧ x.k ≠ 2 ∧ x.k ≠ 7) ∧ x.k = y.k := hk
    refine wp_rs fun K26 hK26 => ?_
    refine s_val hF (x_fa0 fa27_0 rfl) (by decide) fun a hF => ?_
    refine s_val hF (x_load rfl (m_load flat3 (m2.cell (j := 0) rfl))) (by decide) fun a hF => ?_
    refine s_val hF (x_fa0 fa27_0 rfl) (by decide) fun a hF => ?_
    refine s_val hF (x_load rfl (m_load flat3 (m3.cell (j := 0) rfl))) (by decide) fun a hF => ?_
    refine s_val hF (x_neq (b := false) (decide_eq_false (by omega)) rfl rfl) (by decide) fun a hF => ?_
    refine s_end (hK26 _ _ ?_)
    refine wp_if hF rfl ?_
    refine wp_skip (hK2 _ _ ?_)
    refine wp_seq_k fun K27 hK27 => ?_
    refine wp_rs fun K28 hK28 => ?_
    refine s_val hF (x_fa0 fa27_0 rfl) (by decide) fun a hF => ?_
    refine s_val hF (x_load rfl (m_load flat3 (m2.cell (j := 0) rfl))) (by decide) fun a hF => ?_
    refine s_end (hK28 _ _ ?_)
    refine wp_block ?_
    refine wp_rs fun K29 hK29 => ?_
    refine s_val hF (x_eql (b := false) (decide_eq_false (by omega)) rfl rfl) (by decide) fun a hF => ?_
    refine s_val hF (x_assign rfl) (by decide) fun a hF => ?_
    refine s_end (hK29 _ _ ?_)
    refine wp_if hF rfl ?_
    refine wp_rs fun K30 hK30 => ?_
    refine s_val hF (x_eql (b := false) (decide_eq_false (by omega)) rfl rfl) (by decide) fun a hF => ?_
    refine s_val hF (x_assign rfl) (by decide) fun a hF => ?_
    refine s_end (hK30 _ _ ?_)
    refine wp_if hF rfl ?_
    refine wp_rs fun K31 hK31 => ?_
    refine s_val hF (x_eql (b := false) (decide_eq_false (by omega)) rfl rfl) (by decide) fun a hF => ?_
    refine s_val hF (x_assign rfl) (by decide) fun a hF => ?_
    refine s_end (hK31 _ _ ?_)
    refine wp_if hF rfl ?_
    refine wp_skip (hK27 _ _ ?_)
    refine dk2_seq (w4.heap.size) (w4.heap.size) (ops := regOps Try.f76 10) (N := 6) (by kernel_rfl) wide_orders (by kernel_rfl) fun w10 hw10 B11 hS K32 hK32 => ?_
    have zw10 : w10.heap.size = w4.heap.size := by rw [hw10]
    have sB11 := B11.size
    have hB := hB.trans (B11.mono hB.size)
    have m2 := m2.old B11
    have m3 := m3.old B11
    have m2_d := m2
    have m3_d := m3
    have hB_d := hB
    refine d_val 0 40 (op := (Go.Op.load 27 (Go.Operand.tmp 2))) hF hS (by kernel_rfl) (fun W hW => x_ldW wide27 (m2_d.k2 hW (by omega)) rfl rfl) (by kernel_rfl) (by decide) fun a hF => ?_
    refine d_val 2 42 (op := (Go.Op.load 27 (Go.Operand.tmp 3))) hF hS (by kernel_rfl) (fun W hW => x_ldW wide27 (m3_d.k2 hW (by omega)) rfl rfl) (by kernel_rfl) (by decide) fun a hF => ?_
    refine d_one 1 (some 41) (Go.Op.call (Go.Call.mk (Go.Callee.value (Go.Operand.func 89)) #[(Go.Operand.tmp 40)] #[27])) (by kernel_rfl) (by kernel_rfl) fun ty pos af => ?_
    refine s_callR (R := fun v w' => RK w0 (fun k => k < w0.heap.size) v c.kids) [_] hF (enters_of Try.func89 (by kernel_rfl) rfl) rfl (by decide) (kidsOf101 c x (fun k => k < w0.heap.size) w0 w10 hx) ?_
    rintro v41 w12 a hv41 B13 hF
    have sB13 := B13.size
    have hB := hB.trans (B13.mono hB.size)
    have m2 := m2.old B13
    have m3 := m3.old B13
    have hS := hS.below B13
    refine s_end ⟨hS, ?_⟩
    refine d_one 3 (some 43) (Go.Op.call (Go.Call.mk (Go.Callee.value (Go.Operand.func 89)) #[(Go.Operand.tmp 42)] #[27])) (by kernel_rfl) (by kernel_rfl) fun ty pos af => ?_
    refine s_callR (R := fun v w' => RK w0 (fun k => k < w0.heap.size) v d.kids) [_] hF (enters_of Try.func89 (by kernel_rfl) rfl) rfl (by decide) (kidsOf101 d y (fun k => k < w0.heap.size) w0 w12 hy) ?_
    rintro v43 w14 a hv43 B15 hF
    have sB15 := B15.size
    have hB := hB.trans (B15.mono hB.size)
    have m2 := m2.old B15
    have m3 := m3.old B15
    have hS := hS.below B15
    refine s_end ⟨hS, ?_⟩
    refine d_one 4 (some 44) (Go.Op.call (Go.Call.mk (Go.Callee.value (Go.Operand.func 117)) #[(Go.Operand.tmp 41), (Go.Operand.tmp 43), (Go.Operand.func 76)] #[25, 25, 36])) (by kernel_rfl) (by kernel_rfl) fun ty pos af => ?_
    refine s_callR (R := fun v w' => ∃ b, v = .bool b ∧ (b = true ↔ c.kids.length = d.kids.length ∧ ∀ (i : Nat) p q, c.kids[i]? = some p → d.kids[i]? = some q → sameP p.ess q.ess)) [_, _, _] hF (enters_of Try.func117 (by kernel_rfl) rfl) rfl (by decide) (eqT117 c.kids d.kids _ _ w14 ((hv41.keep hB.size (fun k hk _ => hB.block k hk)).mono (fun k hk => by omega)) ((hv43.keep hB.size (fun k hk _ => hB.block k hk)).mono (fun k hk => by omega)) (by omega) (fun p q x y w i hp hq hx2 hy2 => ih p q x y w (by have := CT.kid_size hp; omega) hx2 hy2 (PT.fit_kid hfit hp))) ?_
    rintro _ w16 a ⟨b44, rfl, h44⟩ B17 hF
    have sB17 := B17.size
    have hB := hB.trans (B17.mono hB.size)
    have m2 := m2.old B17
    have m3 := m3.old B17
    have hS := hS.below B17
    refine s_end ⟨hS, ?_⟩
    refine d_val 5 4 (op := (Go.Op.assign (Go.Operand.tmp 44))) hF hS (by kernel_rfl) (fun W hW => x_assign rfl) (by kernel_rfl) (by decide) fun a hF => ?_
    refine d_end (by kernel_rfl) (hK32 _ _ ?_)
    refine wp_ret (res_slot hF rfl rfl ⟨_, rfl, ⟨_, rfl, by rw [h44, same_rest hx hy hk.2 hk.1]⟩, hB⟩)

set_option maxRecDepth 100000 in
set_option maxHeartbeats 400000 in
theorem Same40 (c d : CT) (x y : C8) (w0 : World) (hx : RC w0 (fun k => k < w0.heap.size) c x) (hy : RC w0 (fun k => k < w0.heap.size) d y) (hfit : c.ess.fit) : Calls Try.prog 39 #[tv x, tv y] w0 fun e w' => ∃ z, e = .returned z ∧ (∃ b, z = .bool b ∧ (b = true ↔ c.ok ∧ d.ok ∧ sameP c.ess d.ess)) ∧ Below w0.heap.size w0 w' := by
  have hB := Below.refl w0.heap.size w0
  have sB := hB.size
  refine calls_fs 18 [(0, tv x), (1, tv y)] Try.func39 rfl rfl rfl rfl rfl fun a hF => ?_
  refine wp_rs fun K1 hK1 => ?_
  refine s_box (tc x) hF (by decide) rfl rfl fun w2 b2 a eb2 m2 B3 zb2 hF => ?_
  have sB3 := B3.size
  have hB := hB.trans (B3.mono hB.size)
  refine s_box (tc y) hF (by decide) rfl rfl fun w4 b3 a eb3 m3 B5 zb3 hF => ?_
  have sB5 := B5.size
  have hB := hB.trans (B5.mono hB.size)
  have m2 := m2.old B5
  refine s_val hF (x_assign rfl) (by decide) fun a hF => ?_
  refine s_end (hK1 _ _ ?_)
  rcases (show ¬ c.ok ∨ (c.ok ∧ ¬ d.ok) ∨ (c.ok ∧ d.ok) by by_cases h : c.ok <;> by_cases h2 : d.ok <;> simp [h, h2]) with hk1 | ⟨hk1, hk2⟩ | ⟨hk1, hk2⟩
  · skip
    refine wp_rs fun K3 hK3 => ?_
    refine s_val hF (x_ldW wide27 m2 rfl rfl) (by decide) fun a hF => ?_
    refine s_callB [_] hF (enters_of Try.func55 (by kernel_rfl) rfl) rfl (by decide) ((isGreat66 c x w4 (hx.bel hB)).mono fun e w' h => ⟨by rw [h.1, decide_eq_true hk1], h.2⟩) fun w6 a B7 hF => ?_
    have sB7 := B7.size
    have hB := hB.trans (B7.mono hB.size)
    have m2 := m2.old B7
    have m3 := m3.old B7
    refine s_val hF (x_not rfl) (by decide) fun a hF => ?_
    refine s_val hF (x_move rfl) (by decide) fun a hF => ?_
    refine s_grdn 8 hF rfl rfl (by decide) fun a hF => ?_
    refine s_grdn 8 hF rfl rfl (by decide) fun a hF => ?_
    refine s_grdn 8 hF rfl rfl (by decide) fun a hF => ?_
    refine s_val hF (x_pick (b := false) rfl rfl) (by decide) fun a hF => ?_
    refine s_val hF (x_move rfl) (by decide) fun a hF => ?_
    refine s_grdn 13 hF rfl rfl (by decide) fun a hF => ?_
    refine s_grdn 13 hF rfl rfl (by decide) fun a hF => ?_
    refine s_grdn 13 hF rfl rfl (by decide) fun a hF => ?_
    refine s_val hF (x_pick (b := false) rfl rfl) (by decide) fun a hF => ?_
    refine s_val hF (x_assign rfl) (by decide) fun a hF => ?_
    refine s_end (hK3 _ _ ?_)
    refine wp_ret (res_slot hF rfl rfl ⟨_, rfl, ⟨false, rfl, fun h => absurd h (by decide), fun h => (hk1 h.1).elim⟩, hB⟩)
  · skip
    refine wp_rs fun K4 hK4 => ?_
    refine s_val hF (x_ldW wide27 m2 rfl rfl) (by decide) fun a hF => ?_
    refine s_callB [_] hF (enters_of Try.func55 (by kernel_rfl) rfl) rfl (by decide) ((isGreat66 c x w4 (hx.bel hB)).mono fun e w' h => ⟨by rw [h.1, decide_eq_false (fun h => h hk1)], h.2⟩) fun w8 a B9 hF => ?_
    have sB9 := B9.size
    have hB := hB.trans (B9.mono hB.size)
    have m2 := m2.old B9
    have m3 := m3.old B9
    refine s_val hF (x_not rfl) (by decide) fun a hF => ?_
    refine s_val hF (x_move rfl) (by decide) fun a hF => ?_
    refine s_grd 8 hF rfl rfl rfl ?_
    refine s_val hF (x_ldW wide27 m3 rfl rfl) (by decide) fun a hF => ?_
    refine s_grd 8 hF rfl rfl rfl ?_
    refine s_callB [_] hF (enters_of Try.func55 (by kernel_rfl) rfl) rfl (by decide) ((isGreat66 d y w8 (hy.bel hB)).mono fun e w' h => ⟨by rw [h.1, decide_eq_true hk2], h.2⟩) fun w10 a B11 hF => ?_
    have sB11 := B11.size
    have hB := hB.trans (B11.mono hB.size)
    have m2 := m2.old B11
    have m3 := m3.old B11
    refine s_grd 8 hF rfl rfl rfl ?_
    refine s_val hF (x_not rfl) (by decide) fun a hF => ?_
    refine s_val hF (x_pick (b := true) rfl rfl) (by decide) fun a hF => ?_
    refine s_val hF (x_move rfl) (by decide) fun a hF => ?_
    refine s_grdn 13 hF rfl rfl (by decide) fun a hF => ?_
    refine s_grdn 13 hF rfl rfl (by decide) fun a hF => ?_
    refine s_grdn 13 hF rfl rfl (by decide) fun a hF => ?_
    refine s_val hF (x_pick (b := false) rfl rfl) (by decide) fun a hF => ?_
    refine s_val hF (x_assign rfl) (by decide) fun a hF => ?_
    refine s_end (hK4 _ _ ?_)
    refine wp_ret (res_slot hF rfl rfl ⟨_, rfl, ⟨false, rfl, fun h => absurd h (by decide), fun h => (hk2 h.2.1).elim⟩, hB⟩)
  · skip
    refine wp_rs fun K5 hK5 => ?_
    refine s_val hF (x_ldW wide27 m2 rfl rfl) (by decide) fun a hF => ?_
    refine s_callB [_] hF (enters_of Try.func55 (by kernel_rfl) rfl) rfl (by decide) ((isGreat66 c x w4 (hx.bel hB)).mono fun e w' h => ⟨by rw [h.1, decide_eq_false (fun h => h hk1)], h.2⟩) fun w12 a B13 hF => ?_
    have sB13 := B13.size
    have hB := hB.trans (B13.mono hB.size)
    have m2 := m2.old B13
    have m3 := m3.old B13
    refine s_val hF (x_not rfl) (by decide) fun a hF => ?_
    refine s_val hF (x_move rfl) (by decide) fun a hF => ?_
    refine s_grd 8 hF rfl rfl rfl ?_
    refine s_val hF (x_ldW wide27 m3 rfl rfl) (by decide) fun a hF => ?_
    refine s_grd 8 hF rfl rfl rfl ?_
    refine s_callB [_] hF (enters_of Try.func55 (by kernel_rfl) rfl) rfl (by decide) ((isGreat66 d y w12 (hy.bel hB)).mono fun e w' h => ⟨by rw [h.1, decide_eq_false (fun h => h hk2)], h.2⟩) fun w14 a B15 hF => ?_
    have sB15 := B15.size
    have hB := hB.trans (B15.mono hB.size)
    have m2 := m2.old B15
    have m3 := m3.old B15
    refine s_grd 8 hF rfl rfl rfl ?_
    refine s_val hF (x_not rfl) (by decide) fun a hF => ?_
    refine s_val hF (x_pick (b := true) rfl rfl) (by decide) fun a hF => ?_
    refine s_val hF (x_move rfl) (by decide) fun a hF => ?_
    refine s_grd 13 hF rfl rfl rfl ?_
    refine s_val hF (x_ldW wide27 m2 rfl rfl) (by decide) fun a hF => ?_
    refine s_grd 13 hF rfl rfl rfl ?_
    refine s_val hF (x_ldW wide27 m3 rfl rfl) (by decide) fun a hF => ?_
    refine s_grd 13 hF rfl rfl rfl ?_
    refine s_callR (R := fun v w' => ∃ b, v = .bool b ∧ (b = true ↔ sameP c.ess d.ess)) [_, _] hF (enters_of Try.func76 (by kernel_rfl) rfl) rfl (by decide) (same81 (c.size + 1) c d x y w14 (by omega) (hx.bel hB) (hy.bel hB) hfit) ?_
    rintro _ w16 a ⟨b16, rfl, h16⟩ B17 hF
    have sB17 := B17.size
    have hB := hB.trans (B17.mono hB.size)
    have m2 := m2.old B17
    have m3 := m3.old B17
    refine s_val hF (x_pick (b := true) rfl rfl) (by decide) fun a hF => ?_
    refine s_val hF (x_assign rfl) (by decide) fun a hF => ?_
    refine s_end (hK5 _ _ ?_)
    refine wp_ret (res_slot hF rfl rfl ⟨_, rfl, ⟨_, rfl, by rw [h16]; exact ⟨fun h => ⟨hk1, hk2, h⟩, fun h => h.2.2⟩⟩, hB⟩)
end Go.Proofs.Ytaclncmkdpjnlaa

namespace Go.Proofs.Ytaclncmkdpjnlaa
open Go.RowKit Go.Shelf
set_option linter.unusedVariables false
set_option linter.unusedSimpArgs false
theorem looseR_ok {c : CT} (h : c.ok) : c.looseR = c.ess.loose 0 := if_pos h
theorem okL_snd {W : World} {x : C3} {l : Lv} (h : RL W x l) (hc : (chk 32 1048576 6 1 100 l).1 = 0) : sndL l := by
  obtain ⟨s, h1, h2, h3, h4⟩ := chk_sl (D := 32) (top := 1048576) (vars := 6) h 1 100 hc
  refine rs_snd h h1 ⟨by omega, by omega, ?_⟩
  have key : ∀ s : SL, s.nums 1048576 6 → s.nums 1099511627776 1001 := by
    intro s
    induction s with
    | num n => simp only [SL.nums]; omega
    | var n => simp only [SL.nums]; omega
    | succ n a ih => simp only [SL.nums]; exact fun ⟨a1, a2, a3⟩ => ⟨a1, by omega, ih a3⟩
    | mx a b ha hb => simp only [SL.nums]; exact fun ⟨a1, a2⟩ => ⟨ha a1, hb a2⟩
  exact key s h2
theorem eqO_self {W : World} {x : C3} {l : Lv} (h : RL W x l) (hc : (chk 32 1048576 6 1 100 l).1 = 0) : eqO (slO l) (slO l) := by
  obtain ⟨s, h1, h2⟩ := sound_sl h (okL_snd h hc)
  rw [slO_of h h1 h2]
  exact ⟨rfl, rfl⟩
theorem same_self {W : World} {A : Nat → Prop} : ∀ {c : CT} {x : C8}, RC W A c x → c.okV 6 → sameP c.ess c.ess
  | .var n m, x, h, ho => rfl
  | .sort l m, x, h, ho => eqO_self h.2.1.rl ho
  | .cst s ls m, x, h, ho => by
    obtain ⟨xs, g1, g2, g3⟩ := h.2.2.1
    refine ⟨rfl, rfl, fun i o p e1 e2 => ?_⟩
    rw [e1] at e2
    cases e2
    rw [List.getElem?_map] at e1
    obtain ⟨l, e3, rfl⟩ := Option.map_eq_some_iff.1 e1
    have hi := (List.getElem?_eq_some_iff.1 e3).1
    exact eqO_self (g3 i (xs[i]'(by omega)) l (List.getElem?_eq_getElem (by omega)) e3).rl (ho.2 l (List.mem_of_getElem? e3))
  | .odd k m, x, h, ho => ho.elim
  | .two k a b m, x, ⟨_, _, ⟨y, z, cs, _, ha, hb⟩, _⟩, ho => ⟨rfl, same_self ha ho.1, same_self hb ho.2⟩
  | .lt a b c m, x, ⟨_, ⟨y, z, u, cs, _, ha, hb, hc⟩, _⟩, ho => ⟨same_self ha ho.1, same_self hb ho.2.1, same_self hc ho.2.2⟩
section
variable {P : Program} {n : Nat} {l : List (Nat × Value)} {w : World}
theorem x_remu {t t' : TypeId} {x y : Operand} {k : IntKind} {p q : Int} (r : Int) (h0 : q ≠ 0) (h1 : p.tmod q = r) (hx : ov l x = some (.int k p)) (hy : ov l y = some (.int k q)) : Runs P n l w (.binOp .rem t x y t') (.int k r) :=
  x_bin hx hy (b_int fun W => by simp [binOp, Op.intDiv, h0, h1])
end
theorem u64_rem (z q : Int) (hq : 0 < q) (hq2 : q ≤ 1000) : 0 ≤ (z % 18446744073709551616).tmod q ∧ (z % 18446744073709551616).tmod q < q := by
  have h1 : 0 ≤ z % 18446744073709551616 := Int.emod_nonneg _ (by decide)
  rw [Int.tmod_eq_emod_of_nonneg h1]
  exact ⟨Int.emod_nonneg _ (by omega), Int.emod_lt_of_pos _ hq⟩

end Go.Proofs.Ytaclncmkdpjnlaa

namespace Go.Proofs.Ytaclncmkdpjnlaa
open Go.RowKit Go.Shelf
set_option linter.unusedVariables false
set_option linter.unusedSimpArgs false

theorem mN9 {c : CT} (h : c.ok) : c.mN = c.size := if_pos h
theorem okV_bd {vars : Int} : ∀ (c : CT), c.okV vars → c.ess.bd 1048576
  | .var n m, h => h
  | .two k p q m, h => ⟨okV_bd p h.1, okV_bd q h.2⟩
  | .lt p q r m, h => ⟨okV_bd p h.1, okV_bd q h.2.1, okV_bd r h.2.2⟩
  | .sort .., h => trivial
  | .cst .., h => trivial
  | .odd .., h => trivial
theorem sameP_sh (b : Int) : ∀ (p : PT) (d : Int), sameP p p → sameP (p.sh b d) (p.sh b d)
  | .var n, d, h => rfl
  | .two k p q, d, h => ⟨rfl, sameP_sh b p d h.2.1, sameP_sh b q _ h.2.2⟩
  | .lt p q r, d, h => ⟨sameP_sh b p d h.1, sameP_sh b q d h.2.1, sameP_sh b r _ h.2.2⟩
  | .sort o, d, h => h
  | .cst s os, d, h => h
  | .odd k, d, h => rfl
theorem sh_fit (b : Int) : ∀ (p : PT) (d : Int), p.fit → (p.sh b d).fit
  | .var n, d, h => trivial
  | .two k p q, d, h => ⟨sh_fit b p d h.1, sh_fit b q _ h.2⟩
  | .lt p q r, d, h => ⟨sh_fit b p d h.1, sh_fit b q d h.2.1, sh_fit b r _ h.2.2⟩
  | .sort o, d, h => trivial
  | .cst s os, d, h => h
  | .odd k, d, h => trivial
theorem sh_ok {b d : Int} {p : PT} (h : p.ok) : (p.sh b d).ok := by unfold PT.ok at h ⊢; rw [(sh_size b p d).1, (sh_size b p d).2]; exact h
theorem Lift_is {M b f : Int} {p : PT} (hp : p.ok) (hbd : p.bd M) (hM : M + b ≤ 9223372036854775807) (hb : 0 ≤ b) (hb2 : b ≤ 1048576) (hf : 0 ≤ f) : p.Lift f b = p.sh b f ∧ (p.sh b f).bd (M + b) ∧ (p.sh b f).ok := by
  have h := lift_shf hM hb hf p 0 hbd (by decide)
  rw [Int.zero_add] at h
  refine ⟨?_, h.2, sh_ok hp⟩
  unfold PT.Lift
  rw [if_pos hp, show max f 0 = f by omega, show cut20 b = b by unfold cut20; omega]
  exact h.1
theorem inst_back {M : Int} {p v : PT} (hp : p.ok) (hv : v.ok) (hbd : p.bd M) (hvb : v.bd 1048576) (hM : M ≤ 1099511627776) : PT.inst (p.sh 1 0) v = p := by
  have h1 := lift_sh (M := M) (b := 1) (by omega) (by decide) p 0 hbd (by decide)
  have hd := (sh_size 1 p 0).2
  have h2 := put_pu hvb (by decide) (p.sh 1 0) 0 h1.2 (by decide) (by have := hp.2; omega)
  have h3 : PT.put v (p.sh 1 0) 0 = p := by rw [h2.1]; exact pu_lift1 v p 0
  unfold PT.inst
  rw [h3, if_pos ⟨sh_ok hp, hv, hp⟩]
theorem loose_pu0 {M : Int} (hM : M ≤ 1099511627776) (v : PT) : ∀ (p : PT) (d : Int), p.bd M → p.loose d ≤ 1 → p.occ d = 0 → (PT.pu v p d).loose d = 0
  | .var n, d, hb, hl, ho => by
    have h1 := hb.2
    simp only [PT.occ] at ho
    simp only [PT.loose] at hl
    have hn : ¬ n = d := fun h => by rw [if_pos h] at ho; omega
    simp only [PT.pu]
    rw [if_neg hn]
    simp only [PT.loose]
    by_cases h2 : d ≤ n
    · rw [if_pos h2] at hl; omega
    · rw [if_neg (show ¬ d < n by omega), if_neg h2]
  | .two k p q, d, hb, hl, ho => by
    have n1 := p.loose_nn d
    have n2 := q.loose_nn (d + if k = 3 ∨ k = 4 then 1 else 0)
    simp only [PT.occ] at ho
    simp only [PT.loose] at hl
    simp only [PT.pu, PT.loose]
    rw [loose_pu0 hM v p d hb.1 (by omega) (by omega), loose_pu0 hM v q _ hb.2 (by omega) (by omega)]
    decide
  | .lt p q r, d, hb, hl, ho => by
    have n1 := p.loose_nn d
    have n2 := q.loose_nn d
    have n3 := r.loose_nn (d + 1)
    simp only [PT.occ] at ho
    simp only [PT.loose] at hl
    simp only [PT.pu, PT.loose]
    rw [loose_pu0 hM v p d hb.1 (by omega) (by omega), loose_pu0 hM v q _ hb.2.1 (by omega) (by omega), loose_pu0 hM v r _ hb.2.2 (by omega) (by omega)]
    decide
  | .sort o, d, hb, hl, ho => rfl
  | .cst s os, d, hb, hl, ho => rfl
  | .odd k, d, hb, hl, ho => rfl
theorem occ_le : ∀ (p : PT) (d : Int), p.occ d ≤ p.size
  | .var n, d => by simp only [PT.occ, PT.size]; split <;> omega
  | .two k p q, d => by have := occ_le p d; have := occ_le q (d + if k = 3 ∨ k = 4 then 1 else 0); simp only [PT.occ, PT.size]; omega
  | .lt p q r, d => by have := occ_le p d; have := occ_le q d; have := occ_le r (d + 1); simp only [PT.occ, PT.size]; omega
  | .sort o, d => by simp [PT.occ]
  | .cst s os, d => by simp [PT.occ]
  | .odd k, d => by simp [PT.occ]
theorem inst_pu {p v : PT} (hp : p.size ≤ 400 ∧ p.dep ≤ 64) (hv : v.size ≤ 400 ∧ v.dep ≤ 64) (hbd : p.bd 1048576) (hvb : v.bd 1048576) (hs : (p.size : Int) + p.occ 0 * (v.size - 1) ≤ 20000) : PT.inst p v = PT.pu v p 0 ∧ (PT.pu v p 0).ok := by
  have h2 := put_pu hvb (by decide) p 0 hbd (by decide) (by have := hp.2; omega)
  have h3 := pu_occ v p 0
  have h4 := (pu_size v p 0).2
  have hok : (PT.pu v p 0).ok := ⟨by omega, by omega⟩
  unfold PT.inst
  rw [h2.1, if_pos ⟨⟨by omega, by omega⟩, ⟨by omega, by omega⟩, hok⟩]
  exact ⟨rfl, hok⟩

set_option maxRecDepth 100000 in
set_option maxHeartbeats 400000 in
theorem termBack_walk (a0 v0 : CT) (x y : C8) (fr ai bi : Int) (w0 : World) (hx : RC w0 (fun k => k < w0.heap.size) a0 x) (hy : RC w0 (fun k => k < w0.heap.size) v0 y) (fa : a0.fit) (fv : v0.fit) : Calls Try.prog 7 #[tv x, tv y, .int .i64 fr, .int .i64 ai, .int .i64 bi] w0 fun e w' => e = .returned (.bool true) ∧ Below w0.heap.size w0 w' := by
  obtain ⟨A, hAe⟩ : ∃ B, B = (ai % 18446744073709551616).tmod 1000 := ⟨_, rfl⟩
  obtain ⟨B, hBe⟩ : ∃ B, B = (bi % 18446744073709551616).tmod 1000 := ⟨_, rfl⟩
  obtain ⟨R, hRe⟩ : ∃ R, R = (fr % 18446744073709551616).tmod 100 := ⟨_, rfl⟩
  have hAr := u64_rem ai 1000 (by decide) (by decide)
  have hBr := u64_rem bi 1000 (by decide) (by decide)
  have hRr := u64_rem fr 100 (by decide) (by decide)
  rw [← hAe] at hAr
  rw [← hBe] at hBr
  rw [← hRe] at hRr
  have hfe := CT.fit_ess fa
  have hB := Below.refl w0.heap.size w0
  have sB := hB.size
  refine calls_fs 106 [(0, tv x), (1, tv y), (2, .int .i64 fr), (3, .int .i64 ai), (4, .int .i64 bi)] Try.func7 rfl rfl rfl rfl rfl fun a hF => ?_
  refine wp_rs fun K1 hK1 => ?_
  refine s_box (tc x) hF (by decide) rfl rfl fun w2 b5 a eb5 m5 B3 zb5 hF => ?_
  have sB3 := B3.size
  have hB := hB.trans (B3.mono hB.size)
  refine s_box (tc y) hF (by decide) rfl rfl fun w4 b6 a eb6 m6 B5 zb6 hF => ?_
  have sB5 := B5.size
  have hB := hB.trans (B5.mono hB.size)
  have m5 := m5.old B5
  refine s_val hF (x_assign rfl) (by decide) fun a hF => ?_
  refine s_end (hK1 _ _ ?_)
  refine wp_seq_k fun K2 hK2 => ?_
  refine wp_rs fun K3 hK3 => ?_
  refine s_val hF (x_ldW wide27 m5 rfl rfl) (by decide) fun a hF => ?_
  refine s_val hF (x_ldW wide27 m6 rfl rfl) (by decide) fun a hF => ?_
  refine s_litG [tv x, tv y] el25 hF (by decide) rfl (by simp [Value.cells, tc]) rfl (by decide) (by decide) fun w6 bl a ebl ml B7 zbl hF => ?_
  have sB7 := B7.size
  have hB := hB.trans (B7.mono hB.size)
  have m5 := m5.old B7
  have m6 := m6.old B7
  have ml : Blk w6 bl 27 (tc x ++ tc y) := by simpa [Value.cells] using ml
  have hrk : RK w6 (fun k => k < w6.heap.size) (.slice (some ⟨bl, 0, none⟩) 2 2) [a0, v0] := ⟨[x, y], ⟨by simpa using Rd.blk ml (n := 2) rfl, fun _ b hb => by simp [Value.ownBlock] at hb; subst hb; exact ml.lt⟩, rfl, fun i x2 c2 e1 e2 => by rcases i with _ | _ | i; (· simp at e1 e2; subst e1 e2; exact hx.bel hB); (· simp at e1 e2; subst e1 e2; exact hy.bel hB); simp at e1⟩
  refine s_callR (R := fun u w' => ∃ b, u = .bool b ∧ (b = true → ∀ c ∈ [a0, v0], c.wf)) [_] hF (enters_of Try.func38 (by kernel_rfl) rfl) rfl (by decide) (whole50 [a0, v0] _ w6 hrk (by simp) (by intro c hc; simp at hc; rcases hc with rfl | rfl <;> assumption)) ?_
  rintro _ w8 a ⟨bw, rfl, hwf⟩ B9 hF
  have sB9 := B9.size
  have hB := hB.trans (B9.mono hB.size)
  have m5 := m5.old B9
  have m6 := m6.old B9
  refine s_val hF (x_not rfl) (by decide) fun a hF => ?_
  refine s_end (hK3 _ _ ?_)
  refine wp_ifb hF rfl (fun hc17 => ?_) (fun hc17 => ?_)
  · refine wp_rs fun K4 hK4 => ?_
    refine s_callB [] hF (enters_of Try.func11 (by kernel_rfl) rfl) rfl (by decide) (awake15 w8) fun w10 a B11 hF => ?_
    have sB11 := B11.size
    have hB := hB.trans (B11.mono hB.size)
    have m5 := m5.old B11
    have m6 := m6.old B11
    refine s_val hF (x_assign rfl) (by decide) fun a hF => ?_
    refine s_end (hK4 _ _ ?_)
    refine wp_ret (then_ret (res_slot hF rfl rfl ⟨rfl, hB⟩))
  · have hb9 : bw = true := by simpa using hc17
    have hw := hwf hb9
    have wa := hw a0 (by simp)
    have wv := hw v0 (by simp)
    have oa := wa.ok
    have ov_ := wv.ok
    have oaE := a0.ok_ess.2 oa
    have ovE := v0.ok_ess.2 ov_
    have hsl := same_self hx wa.1
    have bda := okV_bd a0 wa.1
    have bdv := okV_bd v0 wv.1
    have L1 := Lift_is (b := 1) (f := 0) oaE bda (by decide) (by decide) (by decide) (by decide)
    have LA := Lift_is (b := A) (f := R) oaE bda (by omega) (by omega) (by omega) (by omega)
    have LB := Lift_is (b := B) (f := R) LA.2.2 LA.2.1 (by omega) (by omega) (by omega) (by omega)
    have LC := Lift_is (b := A + B) (f := R) oaE bda (by omega) (by omega) (by omega) (by omega)
    have LZ := Lift_is (b := 0) (f := R) oaE bda (by decide) (by decide) (by decide) (by omega)
    rw [sh_add A B hAr.1] at LB
    rw [psh_zero] at LZ
    have hIB := inst_back (v := v0.ess) oaE ovE bda bdv (by decide)
    have szA := a0.ess_size
    have szV := v0.ess_size
    have dpA := a0.ess_dep
    have dpV := v0.ess_dep
    have wsA := wa.2
    have wsV := wv.2
    refine wp_skip (hK2 _ _ ?_)
    refine wp_rs fun K5 hK5 => ?_
    refine s_val hF (x_move rfl) (by decide) fun a hF => ?_
    refine s_val hF (x_cvt (k := .u64) Try.underlying3 Try.underlying49 (wrap_u64 _) rfl) (by decide) fun a hF => ?_
    refine s_val hF (x_remu _ (by decide) rfl rfl rfl) (by decide) fun a hF => ?_
    refine s_val hF (x_cvt (k := .i64) (r := A) Try.underlying49 Try.underlying3 (by rw [← hAe]; exact wrap_i64 (by omega) (by omega)) rfl) (by decide) fun a hF => ?_
    refine s_val hF (x_move rfl) (by decide) fun a hF => ?_
    refine s_val hF (x_cvt (k := .u64) Try.underlying3 Try.underlying49 (wrap_u64 _) rfl) (by decide) fun a hF => ?_
    refine s_val hF (x_remu _ (by decide) rfl rfl rfl) (by decide) fun a hF => ?_
    refine s_val hF (x_cvt (k := .i64) (r := B) Try.underlying49 Try.underlying3 (by rw [← hBe]; exact wrap_i64 (by omega) (by omega)) rfl) (by decide) fun a hF => ?_
    refine s_val hF (x_move rfl) (by decide) fun a hF => ?_
    refine s_val hF (x_cvt (k := .u64) Try.underlying3 Try.underlying49 (wrap_u64 _) rfl) (by decide) fun a hF => ?_
    refine s_val hF (x_remu _ (by decide) rfl rfl rfl) (by decide) fun a hF => ?_
    refine s_val hF (x_cvt (k := .i64) (r := R) Try.underlying49 Try.underlying3 (by rw [← hRe]; exact wrap_i64 (by omega) (by omega)) rfl) (by decide) fun a hF => ?_
    refine s_val hF (x_assign rfl) (by decide) fun a hF => ?_
    refine s_val hF (x_assign rfl) (by decide) fun a hF => ?_
    refine s_val hF (x_assign rfl) (by decide) fun a hF => ?_
    refine s_end (hK5 _ _ ?_)
    refine wp_seq_k fun K6 hK6 => ?_
    refine dk2_seq (w8.heap.size) (w8.heap.size) (ops := regOps Try.f7 4) (N := 32) (by kernel_rfl) wide_orders (by kernel_rfl) fun w12 hw12 B13 hS K7 hK7 => ?_
    have zw12 : w12.heap.size = w8.heap.size := by rw [hw12]
    have sB13 := B13.size
    have hB := hB.trans (B13.mono hB.size)
    have m5 := m5.old B13
    have m6 := m6.old B13
    have m5_d := m5
    have m6_d := m6
    have hB_d := hB
    refine d_val 0 31 (op := (Go.Op.load 27 (Go.Operand.tmp 5))) hF hS (by kernel_rfl) (fun W hW => x_ldW wide27 (m5_d.k2 hW (by omega)) rfl rfl) (by kernel_rfl) (by decide) fun a hF => ?_
    refine d_val 2 33 (op := (Go.Op.load 27 (Go.Operand.tmp 6))) hF hS (by kernel_rfl) (fun W hW => x_ldW wide27 (m6_d.k2 hW (by omega)) rfl rfl) (by kernel_rfl) (by decide) fun a hF => ?_
    refine d_val 4 35 (op := (Go.Op.load 27 (Go.Operand.tmp 5))) hF hS (by kernel_rfl) (fun W hW => x_ldW wide27 (m5_d.k2 hW (by omega)) rfl rfl) (by kernel_rfl) (by decide) fun a hF => ?_
    refine d_one 1 (some 32) (Go.Op.call (Go.Call.mk (Go.Callee.value (Go.Operand.func 36)) #[(Go.Operand.tmp 31), (Go.Operand.const (Go.Value.int Go.IntKind.i64 0)), (Go.Operand.const (Go.Value.int Go.IntKind.i64 1))] #[27, 3, 3])) (by kernel_rfl) (by kernel_rfl) fun ty pos af => ?_
    refine s_callR (R := fun u w' => ∃ y, u = tv y ∧ RT w' ((a0.ess).Lift (0) (1)) y) [_, _, _] hF (enters_of Try.func36 (by kernel_rfl) rfl) rfl (by decide) (Lift48 a0 x (0) (1) w12 (hx.bel hB)) ?_
    rintro _ w14 a ⟨yp, rfl, hp⟩ B15 hF
    have sB15 := B15.size
    have hB := hB.trans (B15.mono hB.size)
    have m5 := m5.old B15
    have m6 := m6.old B15
    have hS := hS.below B15
    obtain ⟨cp, hcp, hep⟩ := hp
    rw [L1.1] at hep
    have hBp := Below.refl w14.heap.size w14
    have sBp := hBp.size
    refine s_end ⟨hS, ?_⟩
    refine d_one 3 (some 34) (Go.Op.call (Go.Call.mk (Go.Callee.value (Go.Operand.func 29)) #[(Go.Operand.tmp 32), (Go.Operand.tmp 33)] #[27, 27])) (by kernel_rfl) (by kernel_rfl) fun ty pos af => ?_
    refine s_callR (R := fun u w' => ∃ y, u = tv y ∧ RT w' (PT.inst (cp.ess) v0.ess) y) [_, _] hF (enters_of Try.func29 (by kernel_rfl) rfl) rfl (by decide) (Inst42 cp v0 yp y w14 (hcp.bel hBp) (hy.bel hB)) ?_
    rintro _ w16 a ⟨yq, rfl, hq⟩ B17 hF
    have sB17 := B17.size
    have hB := hB.trans (B17.mono hB.size)
    have hBp := hBp.trans (B17.mono hBp.size)
    have m5 := m5.old B17
    have m6 := m6.old B17
    have hS := hS.below B17
    obtain ⟨cq, hcq, heq⟩ := hq
    rw [hep, hIB] at heq
    have hBq := Below.refl w16.heap.size w16
    have sBq := hBq.size
    refine s_end ⟨hS, ?_⟩
    refine d_one 5 (some 36) (Go.Op.call (Go.Call.mk (Go.Callee.value (Go.Operand.func 39)) #[(Go.Operand.tmp 34), (Go.Operand.tmp 35)] #[27, 27])) (by kernel_rfl) (by kernel_rfl) fun ty pos af => ?_
    refine s_callB [_, _] hF (enters_of Try.func39 (by kernel_rfl) rfl) rfl (by decide) ((Same40 cq a0 yq x w16 (hcq.bel hBq) (hx.bel hB) (by rw [heq]; exact hfe)).mono fun e w' ⟨z, h1, ⟨b, h2, h3⟩, h4⟩ => ⟨by rw [h1, h2, h3.2 ⟨cq.ok_ess.1 (by rw [heq]; exact oaE), oa, by rw [heq]; exact hsl⟩], h4⟩) fun w18 a B19 hF => ?_
    have sB19 := B19.size
    have hB := hB.trans (B19.mono hB.size)
    have hBp := hBp.trans (B19.mono hBp.size)
    have hBq := hBq.trans (B19.mono hBq.size)
    have m5 := m5.old B19
    have m6 := m6.old B19
    have hS := hS.below B19
    refine s_end ⟨hS, ?_⟩
    refine d_val 6 37 (op := (Go.Op.unOp Go.UnOp.not 4 (Go.Operand.tmp 36))) hF hS (by kernel_rfl) (fun W hW => x_not rfl) (by kernel_rfl) (by decide) fun a hF => ?_
    refine d_val 7 38 (op := (Go.Op.move (Go.Operand.tmp 37))) hF hS (by kernel_rfl) (fun W hW => x_move rfl) (by kernel_rfl) (by decide) fun a hF => ?_
    refine d_valg 8 39 38 (j := 7) (want := false) (op := (Go.Op.load 27 (Go.Operand.tmp 5))) hF hS (by kernel_rfl) (by kernel_rfl) rfl (fun W hW => x_ldW wide27 (m5_d.k2 hW (by omega)) rfl rfl) (by kernel_rfl) (by decide) fun a hF => ?_
    refine d_valg 9 40 38 (j := 7) (want := false) (op := (Go.Op.move (Go.Operand.tmp 2))) hF hS (by kernel_rfl) (by kernel_rfl) rfl (fun W hW => x_move rfl) (by kernel_rfl) (by decide) fun a hF => ?_
    refine d_valg 10 41 38 (j := 7) (want := false) (op := (Go.Op.move (Go.Operand.tmp 3))) hF hS (by kernel_rfl) (by kernel_rfl) rfl (fun W hW => x_move rfl) (by kernel_rfl) (by decide) fun a hF => ?_
    refine d_valg 12 43 38 (j := 7) (want := false) (op := (Go.Op.move (Go.Operand.tmp 2))) hF hS (by kernel_rfl) (by kernel_rfl) rfl (fun W hW => x_move rfl) (by kernel_rfl) (by decide) fun a hF => ?_
    refine d_valg 13 44 38 (j := 7) (want := false) (op := (Go.Op.move (Go.Operand.tmp 4))) hF hS (by kernel_rfl) (by kernel_rfl) rfl (fun W hW => x_move rfl) (by kernel_rfl) (by decide) fun a hF => ?_
    refine d_valg 15 46 38 (j := 7) (want := false) (op := (Go.Op.load 27 (Go.Operand.tmp 5))) hF hS (by kernel_rfl) (by kernel_rfl) rfl (fun W hW => x_ldW wide27 (m5_d.k2 hW (by omega)) rfl rfl) (by kernel_rfl) (by decide) fun a hF => ?_
    refine d_valg 16 47 38 (j := 7) (want := false) (op := (Go.Op.move (Go.Operand.tmp 2))) hF hS (by kernel_rfl) (by kernel_rfl) rfl (fun W hW => x_move rfl) (by kernel_rfl) (by decide) fun a hF => ?_
    refine d_valg 17 48 38 (j := 7) (want := false) (op := (Go.Op.move (Go.Operand.tmp 3))) hF hS (by kernel_rfl) (by kernel_rfl) rfl (fun W hW => x_move rfl) (by kernel_rfl) (by decide) fun a hF => ?_
    refine d_valg 18 49 38 (j := 7) (want := false) (op := (Go.Op.move (Go.Operand.tmp 4))) hF hS (by kernel_rfl) (by kernel_rfl) rfl (fun W hW => x_move rfl) (by kernel_rfl) (by decide) fun a hF => ?_
    refine d_valg 19 50 38 (j := 7) (want := false) (op := (Go.Op.binOp Go.BinOp.add 3 (Go.Operand.tmp 48) (Go.Operand.tmp 49) 3)) hF hS (by kernel_rfl) (by kernel_rfl) rfl (fun W hW => x_add (by omega) (by omega) rfl rfl) (by kernel_rfl) (by decide) fun a hF => ?_
    refine d_oneg 11 38 (some 42) (Go.Op.call (Go.Call.mk (Go.Callee.value (Go.Operand.func 36)) #[(Go.Operand.tmp 39), (Go.Operand.tmp 40), (Go.Operand.tmp 41)] #[27, 3, 3])) (j := 7) (want := false) hF (by kernel_rfl) (by kernel_rfl) (by kernel_rfl) rfl fun ty pos af => ?_
    refine s_callR (R := fun u w' => ∃ y, u = tv y ∧ RT w' ((a0.ess).Lift (R) (A)) y) [_, _, _] hF (enters_of Try.func36 (by kernel_rfl) rfl) rfl (by decide) (Lift48 a0 x (R) (A) w18 (hx.bel hB)) ?_
    rintro _ w20 a ⟨yr9, rfl, hr9⟩ B21 hF
    have sB21 := B21.size
    have hB := hB.trans (B21.mono hB.size)
    have hBp := hBp.trans (B21.mono hBp.size)
    have hBq := hBq.trans (B21.mono hBq.size)
    have m5 := m5.old B21
    have m6 := m6.old B21
    have hS := hS.below B21
    obtain ⟨cr9, hcr9, her9⟩ := hr9
    rw [LA.1] at her9
    have hBr9 := Below.refl w20.heap.size w20
    have sBr9 := hBr9.size
    refine s_end ⟨hS, ?_⟩
    refine d_oneg 14 38 (some 45) (Go.Op.call (Go.Call.mk (Go.Callee.value (Go.Operand.func 36)) #[(Go.Operand.tmp 42), (Go.Operand.tmp 43), (Go.Operand.tmp 44)] #[27, 3, 3])) (j := 7) (want := false) hF (by kernel_rfl) (by kernel_rfl) (by kernel_rfl) rfl fun ty pos af => ?_
    refine s_callR (R := fun u w' => ∃ y, u = tv y ∧ RT w' ((cr9.ess).Lift (R) (B)) y) [_, _, _] hF (enters_of Try.func36 (by kernel_rfl) rfl) rfl (by decide) (Lift48 cr9 yr9 (R) (B) w20 (hcr9.bel hBr9)) ?_
    rintro _ w22 a ⟨ys, rfl, hs⟩ B23 hF
    have sB23 := B23.size
    have hB := hB.trans (B23.mono hB.size)
    have hBp := hBp.trans (B23.mono hBp.size)
    have hBq := hBq.trans (B23.mono hBq.size)
    have hBr9 := hBr9.trans (B23.mono hBr9.size)
    have m5 := m5.old B23
    have m6 := m6.old B23
    have hS := hS.below B23
    obtain ⟨cs, hcs, hes⟩ := hs
    rw [her9, LB.1] at hes
    have hBs := Below.refl w22.heap.size w22
    have sBs := hBs.size
    refine s_end ⟨hS, ?_⟩
    refine d_oneg 20 38 (some 51) (Go.Op.call (Go.Call.mk (Go.Callee.value (Go.Operand.func 36)) #[(Go.Operand.tmp 46), (Go.Operand.tmp 47), (Go.Operand.tmp 50)] #[27, 3, 3])) (j := 7) (want := false) hF (by kernel_rfl) (by kernel_rfl) (by kernel_rfl) rfl fun ty pos af => ?_
    refine s_callR (R := fun u w' => ∃ y, u = tv y ∧ RT w' ((a0.ess).Lift (R) (A + B)) y) [_, _, _] hF (enters_of Try.func36 (by kernel_rfl) rfl) rfl (by decide) (Lift48 a0 x (R) (A + B) w22 (hx.bel hB)) ?_
    rintro _ w24 a ⟨yu, rfl, hu⟩ B25 hF
    have sB25 := B25.size
    have hB := hB.trans (B25.mono hB.size)
    have hBp := hBp.trans (B25.mono hBp.size)
    have hBq := hBq.trans (B25.mono hBq.size)
    have hBr9 := hBr9.trans (B25.mono hBr9.size)
    have hBs := hBs.trans (B25.mono hBs.size)
    have m5 := m5.old B25
    have m6 := m6.old B25
    have hS := hS.below B25
    obtain ⟨cu, hcu, heu⟩ := hu
    rw [LC.1] at heu
    have hBu := Below.refl w24.heap.size w24
    have sBu := hBu.size
    refine s_end ⟨hS, ?_⟩
    refine d_oneg 21 38 (some 52) (Go.Op.call (Go.Call.mk (Go.Callee.value (Go.Operand.func 39)) #[(Go.Operand.tmp 45), (Go.Operand.tmp 51)] #[27, 27])) (j := 7) (want := false) hF (by kernel_rfl) (by kernel_rfl) (by kernel_rfl) rfl fun ty pos af => ?_
    refine s_callB [_, _] hF (enters_of Try.func39 (by kernel_rfl) rfl) rfl (by decide) ((Same40 cs cu ys yu w24 (hcs.bel hBs) (hcu.bel hBu) (by rw [hes]; exact sh_fit _ _ _ hfe)).mono fun e w' ⟨z, h1, ⟨b, h2, h3⟩, h4⟩ => ⟨by rw [h1, h2, h3.2 ⟨cs.ok_ess.1 (by rw [hes]; exact LB.2.2), cu.ok_ess.1 (by rw [heu]; exact LC.2.2), by rw [hes, heu]; exact sameP_sh _ _ _ hsl⟩], h4⟩) fun w26 a B27 hF => ?_
    have sB27 := B27.size
    have hB := hB.trans (B27.mono hB.size)
    have hBp := hBp.trans (B27.mono hBp.size)
    have hBq := hBq.trans (B27.mono hBq.size)
    have hBr9 := hBr9.trans (B27.mono hBr9.size)
    have hBs := hBs.trans (B27.mono hBs.size)
    have hBu := hBu.trans (B27.mono hBu.size)
    have m5 := m5.old B27
    have m6 := m6.old B27
    have hS := hS.below B27
    refine s_end ⟨hS, ?_⟩
    refine d_valg 22 53 38 (j := 7) (want := false) (op := (Go.Op.unOp Go.UnOp.not 4 (Go.Operand.tmp 52))) hF hS (by kernel_rfl) (by kernel_rfl) rfl (fun W hW => x_not rfl) (by kernel_rfl) (by decide) fun a hF => ?_
    refine d_val 23 54 (op := (Go.Op.pick (Go.Operand.tmp 38) (Go.Operand.const (Go.Value.bool true)) (Go.Operand.tmp 53))) hF hS (by kernel_rfl) (fun W hW => x_pick (b := false) rfl rfl) (by kernel_rfl) (by decide) fun a hF => ?_
    refine d_val 24 55 (op := (Go.Op.move (Go.Operand.tmp 54))) hF hS (by kernel_rfl) (fun W hW => x_move rfl) (by kernel_rfl) (by decide) fun a hF => ?_
    refine d_valg 25 56 55 (j := 24) (want := false) (op := (Go.Op.load 27 (Go.Operand.tmp 5))) hF hS (by kernel_rfl) (by kernel_rfl) rfl (fun W hW => x_ldW wide27 (m5_d.k2 hW (by omega)) rfl rfl) (by kernel_rfl) (by decide) fun a hF => ?_
    refine d_valg 26 57 55 (j := 24) (want := false) (op := (Go.Op.move (Go.Operand.tmp 2))) hF hS (by kernel_rfl) (by kernel_rfl) rfl (fun W hW => x_move rfl) (by kernel_rfl) (by decide) fun a hF => ?_
    refine d_valg 28 59 55 (j := 24) (want := false) (op := (Go.Op.load 27 (Go.Operand.tmp 5))) hF hS (by kernel_rfl) (by kernel_rfl) rfl (fun W hW => x_ldW wide27 (m5_d.k2 hW (by omega)) rfl rfl) (by kernel_rfl) (by decide) fun a hF => ?_
    refine d_oneg 27 55 (some 58) (Go.Op.call (Go.Call.mk (Go.Callee.value (Go.Operand.func 36)) #[(Go.Operand.tmp 56), (Go.Operand.tmp 57), (Go.Operand.const (Go.Value.int Go.IntKind.i64 0))] #[27, 3, 3])) (j := 24) (want := false) hF (by kernel_rfl) (by kernel_rfl) (by kernel_rfl) rfl fun ty pos af => ?_
    refine s_callR (R := fun u w' => ∃ y, u = tv y ∧ RT w' ((a0.ess).Lift (R) (0)) y) [_, _, _] hF (enters_of Try.func36 (by kernel_rfl) rfl) rfl (by decide) (Lift48 a0 x (R) (0) w26 (hx.bel hB)) ?_
    rintro _ w28 a ⟨yz, rfl, hz⟩ B29 hF
    have sB29 := B29.size
    have hB := hB.trans (B29.mono hB.size)
    have hBp := hBp.trans (B29.mono hBp.size)
    have hBq := hBq.trans (B29.mono hBq.size)
    have hBr9 := hBr9.trans (B29.mono hBr9.size)
    have hBs := hBs.trans (B29.mono hBs.size)
    have hBu := hBu.trans (B29.mono hBu.size)
    have m5 := m5.old B29
    have m6 := m6.old B29
    have hS := hS.below B29
    obtain ⟨cz, hcz, hez⟩ := hz
    rw [LZ.1] at hez
    have hBz := Below.refl w28.heap.size w28
    have sBz := hBz.size
    refine s_end ⟨hS, ?_⟩
    refine d_oneg 29 55 (some 60) (Go.Op.call (Go.Call.mk (Go.Callee.value (Go.Operand.func 39)) #[(Go.Operand.tmp 58), (Go.Operand.tmp 59)] #[27, 27])) (j := 24) (want := false) hF (by kernel_rfl) (by kernel_rfl) (by kernel_rfl) rfl fun ty pos af => ?_
    refine s_callB [_, _] hF (enters_of Try.func39 (by kernel_rfl) rfl) rfl (by decide) ((Same40 cz a0 yz x w28 (hcz.bel hBz) (hx.bel hB) (by rw [hez]; exact hfe)).mono fun e w' ⟨z, h1, ⟨b, h2, h3⟩, h4⟩ => ⟨by rw [h1, h2, h3.2 ⟨cz.ok_ess.1 (by rw [hez]; exact oaE), oa, by rw [hez]; exact hsl⟩], h4⟩) fun w30 a B31 hF => ?_
    have sB31 := B31.size
    have hB := hB.trans (B31.mono hB.size)
    have hBp := hBp.trans (B31.mono hBp.size)
    have hBq := hBq.trans (B31.mono hBq.size)
    have hBr9 := hBr9.trans (B31.mono hBr9.size)
    have hBs := hBs.trans (B31.mono hBs.size)
    have hBu := hBu.trans (B31.mono hBu.size)
    have hBz := hBz.trans (B31.mono hBz.size)
    have m5 := m5.old B31
    have m6 := m6.old B31
    have hS := hS.below B31
    refine s_end ⟨hS, ?_⟩
    refine d_valg 30 61 55 (j := 24) (want := false) (op := (Go.Op.unOp Go.UnOp.not 4 (Go.Operand.tmp 60))) hF hS (by kernel_rfl) (by kernel_rfl) rfl (fun W hW => x_not rfl) (by kernel_rfl) (by decide) fun a hF => ?_
    refine d_val 31 62 (op := (Go.Op.pick (Go.Operand.tmp 55) (Go.Operand.const (Go.Value.bool true)) (Go.Operand.tmp 61))) hF hS (by kernel_rfl) (fun W hW => x_pick (b := false) rfl rfl) (by kernel_rfl) (by decide) fun a hF => ?_
    refine d_end (by kernel_rfl) (hK7 _ _ ?_)
    refine wp_if hF rfl ?_
    refine wp_skip (hK6 _ _ ?_)
    refine wp_rs fun K8 hK8 => ?_
    refine s_val hF (x_ldW wide27 m5 rfl rfl) (by decide) fun a hF => ?_
    refine s_val hF (x_ldW wide27 m6 rfl rfl) (by decide) fun a hF => ?_
    refine s_callR (R := fun u w' => ∃ y, u = tv y ∧ RT w' (PT.inst (a0.ess) v0.ess) y) [_, _] hF (enters_of Try.func29 (by kernel_rfl) rfl) rfl (by decide) (Inst42 a0 v0 x y w30 (hx.bel hB) (hy.bel hB)) ?_
    rintro _ w32 a ⟨yi, rfl, hi⟩ B33 hF
    have sB33 := B33.size
    have hB := hB.trans (B33.mono hB.size)
    have hBp := hBp.trans (B33.mono hBp.size)
    have hBq := hBq.trans (B33.mono hBq.size)
    have hBr9 := hBr9.trans (B33.mono hBr9.size)
    have hBs := hBs.trans (B33.mono hBs.size)
    have hBu := hBu.trans (B33.mono hBu.size)
    have hBz := hBz.trans (B33.mono hBz.size)
    have m5 := m5.old B33
    have m6 := m6.old B33
    obtain ⟨ci, hci, hei⟩ := hi
    have hBi := Below.refl w32.heap.size w32
    have sBi := hBi.size
    refine s_alloc hF (by decide) zero27 fun w34 b11 a eb11 m11 B35 zb11 hF => ?_
    have sB35 := B35.size
    have hB := hB.trans (B35.mono hB.size)
    have hBp := hBp.trans (B35.mono hBp.size)
    have hBq := hBq.trans (B35.mono hBq.size)
    have hBr9 := hBr9.trans (B35.mono hBr9.size)
    have hBs := hBs.trans (B35.mono hBs.size)
    have hBu := hBu.trans (B35.mono hBu.size)
    have hBz := hBz.trans (B35.mono hBz.size)
    have hBi := hBi.trans (B35.mono hBi.size)
    have m5 := m5.old B35
    have m6 := m6.old B35
    refine s_putW hF rfl rfl (size_wide wide27) m11 rfl hci.one fun w38 m11 o39 => ?_
    have so39 := o39.size
    have hB := hB.trans (o39.below (by omega))
    have hBp := hBp.trans (o39.below (by omega))
    have hBq := hBq.trans (o39.below (by omega))
    have hBr9 := hBr9.trans (o39.below (by omega))
    have hBs := hBs.trans (o39.below (by omega))
    have hBu := hBu.trans (o39.below (by omega))
    have hBz := hBz.trans (o39.below (by omega))
    have hBi := hBi.trans (o39.below (by omega))
    have m5 := m5.only o39 (by omega)
    have m6 := m6.only o39 (by omega)
    refine s_end (hK8 _ _ ?_)
    refine wp_rs fun K9 hK9 => ?_
    refine s_val hF (x_ldW wide27 m5 rfl rfl) (by decide) fun a hF => ?_
    refine s_callB [_, _] hF (enters_of Try.func40 (by kernel_rfl) rfl) rfl (by decide) (Occurs51 a0 x w38 (hx.bel hB) oa) fun w40 a B41 hF => ?_
    have sB41 := B41.size
    have hB := hB.trans (B41.mono hB.size)
    have hBp := hBp.trans (B41.mono hBp.size)
    have hBq := hBq.trans (B41.mono hBq.size)
    have hBr9 := hBr9.trans (B41.mono hBr9.size)
    have hBs := hBs.trans (B41.mono hBs.size)
    have hBu := hBu.trans (B41.mono hBu.size)
    have hBz := hBz.trans (B41.mono hBz.size)
    have hBi := hBi.trans (B41.mono hBi.size)
    have m5 := m5.old B41
    have m6 := m6.old B41
    have m11 := m11.old B41
    refine s_val hF (x_assign rfl) (by decide) fun a hF => ?_
    refine s_end (hK9 _ _ ?_)
    refine wp_seq_k fun K10 hK10 => ?_
    have n1 := occ_le a0.ess 0
    have hv1 := v0.ess.size_one
    have hp0 : 0 ≤ (a0.ess.occ 0 : Int) * ((v0.size : Int) - 1) := Int.mul_nonneg (by omega) (by omega)
    have hp1 : (a0.ess.occ 0 : Int) * ((v0.size : Int) - 1) ≤ 400 * 400 := Int.mul_le_mul (by omega) (by omega) (by omega) (by decide)
    rcases (show 20000 < (a0.size : Int) + (a0.ess.occ 0 : Int) * ((v0.size : Int) - 1) ∨ ¬ 20000 < (a0.size : Int) + (a0.ess.occ 0 : Int) * ((v0.size : Int) - 1) by omega) with hk | hk
    · skip
      refine dk2_seq (w40.heap.size) (w40.heap.size) (ops := regOps Try.f7 8) (N := 9) (by kernel_rfl) wide_orders (by kernel_rfl) fun w42 hw42 B43 hS K12 hK12 => ?_
      have zw42 : w42.heap.size = w40.heap.size := by rw [hw42]
      have sB43 := B43.size
      have hB := hB.trans (B43.mono hB.size)
      have hBp := hBp.trans (B43.mono hBp.size)
      have hBq := hBq.trans (B43.mono hBq.size)
      have hBr9 := hBr9.trans (B43.mono hBr9.size)
      have hBs := hBs.trans (B43.mono hBs.size)
      have hBu := hBu.trans (B43.mono hBu.size)
      have hBz := hBz.trans (B43.mono hBz.size)
      have hBi := hBi.trans (B43.mono hBi.size)
      have m5 := m5.old B43
      have m6 := m6.old B43
      have m11 := m11.old B43
      have m5_d := m5
      have m6_d := m6
      have m11_d := m11
      have hB_d := hB
      have hBp_d := hBp
      have hBq_d := hBq
      have hBr9_d := hBr9
      have hBs_d := hBs
      have hBu_d := hBu
      have hBz_d := hBz
      have hBi_d := hBi
      refine d_val 0 68 (op := (Go.Op.load 27 (Go.Operand.tmp 5))) hF hS (by kernel_rfl) (fun W hW => x_ldW wide27 (m5_d.k2 hW (by omega)) rfl rfl) (by kernel_rfl) (by decide) fun a hF => ?_
      refine d_val 2 70 (op := (Go.Op.move (Go.Operand.tmp 12))) hF hS (by kernel_rfl) (fun W hW => x_move rfl) (by kernel_rfl) (by decide) fun a hF => ?_
      refine d_val 3 71 (op := (Go.Op.load 27 (Go.Operand.tmp 6))) hF hS (by kernel_rfl) (fun W hW => x_ldW wide27 (m6_d.k2 hW (by omega)) rfl rfl) (by kernel_rfl) (by decide) fun a hF => ?_
      refine d_one 1 (some 69) (Go.Op.call (Go.Call.mk (Go.Callee.value (Go.Operand.func 35)) #[(Go.Operand.tmp 68)] #[27])) (by kernel_rfl) (by kernel_rfl) fun ty pos af => ?_
      refine s_callB [_] hF (enters_of Try.func35 (by kernel_rfl) rfl) rfl (by decide) ((Size33 a0 x w42 (hx.bel hB)).mono fun e w' h => ⟨by rw [h.1, mN9 oa], h.2⟩) fun w44 a B45 hF => ?_
      have sB45 := B45.size
      have hB := hB.trans (B45.mono hB.size)
      have hBp := hBp.trans (B45.mono hBp.size)
      have hBq := hBq.trans (B45.mono hBq.size)
      have hBr9 := hBr9.trans (B45.mono hBr9.size)
      have hBs := hBs.trans (B45.mono hBs.size)
      have hBu := hBu.trans (B45.mono hBu.size)
      have hBz := hBz.trans (B45.mono hBz.size)
      have hBi := hBi.trans (B45.mono hBi.size)
      have m5 := m5.old B45
      have m6 := m6.old B45
      have m11 := m11.old B45
      have hS := hS.below B45
      refine s_end ⟨hS, ?_⟩
      refine d_one 4 (some 72) (Go.Op.call (Go.Call.mk (Go.Callee.value (Go.Operand.func 35)) #[(Go.Operand.tmp 71)] #[27])) (by kernel_rfl) (by kernel_rfl) fun ty pos af => ?_
      refine s_callB [_] hF (enters_of Try.func35 (by kernel_rfl) rfl) rfl (by decide) ((Size33 v0 y w44 (hy.bel hB)).mono fun e w' h => ⟨by rw [h.1, mN9 ov_], h.2⟩) fun w46 a B47 hF => ?_
      have sB47 := B47.size
      have hB := hB.trans (B47.mono hB.size)
      have hBp := hBp.trans (B47.mono hBp.size)
      have hBq := hBq.trans (B47.mono hBq.size)
      have hBr9 := hBr9.trans (B47.mono hBr9.size)
      have hBs := hBs.trans (B47.mono hBs.size)
      have hBu := hBu.trans (B47.mono hBu.size)
      have hBz := hBz.trans (B47.mono hBz.size)
      have hBi := hBi.trans (B47.mono hBi.size)
      have m5 := m5.old B47
      have m6 := m6.old B47
      have m11 := m11.old B47
      have hS := hS.below B47
      refine s_end ⟨hS, ?_⟩
      refine d_val 5 73 (op := (Go.Op.binOp Go.BinOp.sub 3 (Go.Operand.tmp 72) (Go.Operand.const (Go.Value.int Go.IntKind.i64 1)) 3)) hF hS (by kernel_rfl) (fun W hW => x_sub (by omega) (by omega) rfl rfl) (by kernel_rfl) (by decide) fun a hF => ?_
      refine d_val 6 74 (op := (Go.Op.binOp Go.BinOp.mul 3 (Go.Operand.tmp 70) (Go.Operand.tmp 73) 3)) hF hS (by kernel_rfl) (fun W hW => x_mul (by omega) (by omega) rfl rfl) (by kernel_rfl) (by decide) fun a hF => ?_
      refine d_val 7 75 (op := (Go.Op.binOp Go.BinOp.add 3 (Go.Operand.tmp 69) (Go.Operand.tmp 74) 3)) hF hS (by kernel_rfl) (fun W hW => x_add (by omega) (by omega) rfl rfl) (by kernel_rfl) (by decide) fun a hF => ?_
      refine d_val 8 76 (op := (Go.Op.binOp Go.BinOp.gtr 3 (Go.Operand.tmp 75) (Go.Operand.const (Go.Value.int Go.IntKind.i64 20000)) 3)) hF hS (by kernel_rfl) (fun W hW => x_gtr (b := true) (decide_eq_true (by omega)) rfl rfl) (by kernel_rfl) (by decide) fun a hF => ?_
      refine d_end (by kernel_rfl) (hK12 _ _ ?_)
      refine wp_if hF rfl ?_
      refine wp_rs fun K13 hK13 => ?_
      refine s_callB [] hF (enters_of Try.func11 (by kernel_rfl) rfl) rfl (by decide) (awake15 w46) fun w48 a B49 hF => ?_
      have sB49 := B49.size
      have hB := hB.trans (B49.mono hB.size)
      have hBp := hBp.trans (B49.mono hBp.size)
      have hBq := hBq.trans (B49.mono hBq.size)
      have hBr9 := hBr9.trans (B49.mono hBr9.size)
      have hBs := hBs.trans (B49.mono hBs.size)
      have hBu := hBu.trans (B49.mono hBu.size)
      have hBz := hBz.trans (B49.mono hBz.size)
      have hBi := hBi.trans (B49.mono hBi.size)
      have m5 := m5.old B49
      have m6 := m6.old B49
      have m11 := m11.old B49
      refine s_val hF (x_assign rfl) (by decide) fun a hF => ?_
      refine s_end (hK13 _ _ ?_)
      refine wp_ret (then_ret (res_slot hF rfl rfl ⟨rfl, hB⟩))
    · have hin := inst_pu (p := a0.ess) (v := v0.ess) ⟨by omega, by omega⟩ ⟨by omega, by omega⟩ bda bdv (by rw [szA, szV]; omega)
      rw [hin.1] at hei
      have oi := ci.ok_ess.1 (by rw [hei]; exact hin.2)
      have hsi := pu_occ v0.ess a0.ess 0
      rw [← hei, ci.ess_size, szA, szV] at hsi
      have hll := a0.ess.loose_nn 0
      refine dk2_seq (w40.heap.size) (w40.heap.size) (ops := regOps Try.f7 8) (N := 9) (by kernel_rfl) wide_orders (by kernel_rfl) fun w50 hw50 B51 hS K14 hK14 => ?_
      have zw50 : w50.heap.size = w40.heap.size := by rw [hw50]
      have sB51 := B51.size
      have hB := hB.trans (B51.mono hB.size)
      have hBp := hBp.trans (B51.mono hBp.size)
      have hBq := hBq.trans (B51.mono hBq.size)
      have hBr9 := hBr9.trans (B51.mono hBr9.size)
      have hBs := hBs.trans (B51.mono hBs.size)
      have hBu := hBu.trans (B51.mono hBu.size)
      have hBz := hBz.trans (B51.mono hBz.size)
      have hBi := hBi.trans (B51.mono hBi.size)
      have m5 := m5.old B51
      have m6 := m6.old B51
      have m11 := m11.old B51
      have m5_d := m5
      have m6_d := m6
      have m11_d := m11
      have hB_d := hB
      have hBp_d := hBp
      have hBq_d := hBq
      have hBr9_d := hBr9
      have hBs_d := hBs
      have hBu_d := hBu
      have hBz_d := hBz
      have hBi_d := hBi
      refine d_val 0 68 (op := (Go.Op.load 27 (Go.Operand.tmp 5))) hF hS (by kernel_rfl) (fun W hW => x_ldW wide27 (m5_d.k2 hW (by omega)) rfl rfl) (by kernel_rfl) (by decide) fun a hF => ?_
      refine d_val 2 70 (op := (Go.Op.move (Go.Operand.tmp 12))) hF hS (by kernel_rfl) (fun W hW => x_move rfl) (by kernel_rfl) (by decide) fun a hF => ?_
      refine d_val 3 71 (op := (Go.Op.load 27 (Go.Operand.tmp 6))) hF hS (by kernel_rfl) (fun W hW => x_ldW wide27 (m6_d.k2 hW (by omega)) rfl rfl) (by kernel_rfl) (by decide) fun a hF => ?_
      refine d_one 1 (some 69) (Go.Op.call (Go.Call.mk (Go.Callee.value (Go.Operand.func 35)) #[(Go.Operand.tmp 68)] #[27])) (by kernel_rfl) (by kernel_rfl) fun ty pos af => ?_
      refine s_callB [_] hF (enters_of Try.func35 (by kernel_rfl) rfl) rfl (by decide) ((Size33 a0 x w50 (hx.bel hB)).mono fun e w' h => ⟨by rw [h.1, mN9 oa], h.2⟩) fun w52 a B53 hF => ?_
      have sB53 := B53.size
      have hB := hB.trans (B53.mono hB.size)
      have hBp := hBp.trans (B53.mono hBp.size)
      have hBq := hBq.trans (B53.mono hBq.size)
      have hBr9 := hBr9.trans (B53.mono hBr9.size)
      have hBs := hBs.trans (B53.mono hBs.size)
      have hBu := hBu.trans (B53.mono hBu.size)
      have hBz := hBz.trans (B53.mono hBz.size)
      have hBi := hBi.trans (B53.mono hBi.size)
      have m5 := m5.old B53
      have m6 := m6.old B53
      have m11 := m11.old B53
      have hS := hS.below B53
      refine s_end ⟨hS, ?_⟩
      refine d_one 4 (some 72) (Go.Op.call (Go.Call.mk (Go.Callee.value (Go.Operand.func 35)) #[(Go.Operand.tmp 71)] #[27])) (by kernel_rfl) (by kernel_rfl) fun ty pos af => ?_
      refine s_callB [_] hF (enters_of Try.func35 (by kernel_rfl) rfl) rfl (by decide) ((Size33 v0 y w52 (hy.bel hB)).mono fun e w' h => ⟨by rw [h.1, mN9 ov_], h.2⟩) fun w54 a B55 hF => ?_
      have sB55 := B55.size
      have hB := hB.trans (B55.mono hB.size)
      have hBp := hBp.trans (B55.mono hBp.size)
      have hBq := hBq.trans (B55.mono hBq.size)
      have hBr9 := hBr9.trans (B55.mono hBr9.size)
      have hBs := hBs.trans (B55.mono hBs.size)
      have hBu := hBu.trans (B55.mono hBu.size)
      have hBz := hBz.trans (B55.mono hBz.size)
      have hBi := hBi.trans (B55.mono hBi.size)
      have m5 := m5.old B55
      have m6 := m6.old B55
      have m11 := m11.old B55
      have hS := hS.below B55
      refine s_end ⟨hS, ?_⟩
      refine d_val 5 73 (op := (Go.Op.binOp Go.BinOp.sub 3 (Go.Operand.tmp 72) (Go.Operand.const (Go.Value.int Go.IntKind.i64 1)) 3)) hF hS (by kernel_rfl) (fun W hW => x_sub (by omega) (by omega) rfl rfl) (by kernel_rfl) (by decide) fun a hF => ?_
      refine d_val 6 74 (op := (Go.Op.binOp Go.BinOp.mul 3 (Go.Operand.tmp 70) (Go.Operand.tmp 73) 3)) hF hS (by kernel_rfl) (fun W hW => x_mul (by omega) (by omega) rfl rfl) (by kernel_rfl) (by decide) fun a hF => ?_
      refine d_val 7 75 (op := (Go.Op.binOp Go.BinOp.add 3 (Go.Operand.tmp 69) (Go.Operand.tmp 74) 3)) hF hS (by kernel_rfl) (fun W hW => x_add (by omega) (by omega) rfl rfl) (by kernel_rfl) (by decide) fun a hF => ?_
      refine d_val 8 76 (op := (Go.Op.binOp Go.BinOp.gtr 3 (Go.Operand.tmp 75) (Go.Operand.const (Go.Value.int Go.IntKind.i64 20000)) 3)) hF hS (by kernel_rfl) (fun W hW => x_gtr (b := false) (decide_eq_false (by omega)) rfl rfl) (by kernel_rfl) (by decide) fun a hF => ?_
      refine d_end (by kernel_rfl) (hK14 _ _ ?_)
      refine wp_if hF rfl ?_
      refine wp_skip (hK10 _ _ ?_)
      rcases (show 1 < a0.ess.loose 0 ∨ (¬ 1 < a0.ess.loose 0 ∧ 0 < (a0.ess.occ 0 : Int)) ∨ (¬ 1 < a0.ess.loose 0 ∧ ¬ 0 < (a0.ess.occ 0 : Int)) by omega) with hj | hj | hj
      · skip
        refine dk2_seq (w54.heap.size) (w54.heap.size) (ops := regOps Try.f7 10) (N := 29) (by kernel_rfl) wide_orders (by kernel_rfl) fun w56 hw56 B57 hS K16 hK16 => ?_
        have zw56 : w56.heap.size = w54.heap.size := by rw [hw56]
        have sB57 := B57.size
        have hB := hB.trans (B57.mono hB.size)
        have hBp := hBp.trans (B57.mono hBp.size)
        have hBq := hBq.trans (B57.mono hBq.size)
        have hBr9 := hBr9.trans (B57.mono hBr9.size)
        have hBs := hBs.trans (B57.mono hBs.size)
        have hBu := hBu.trans (B57.mono hBu.size)
        have hBz := hBz.trans (B57.mono hBz.size)
        have hBi := hBi.trans (B57.mono hBi.size)
        have m5 := m5.old B57
        have m6 := m6.old B57
        have m11 := m11.old B57
        have m5_d := m5
        have m6_d := m6
        have m11_d := m11
        have hB_d := hB
        have hBp_d := hBp
        have hBq_d := hBq
        have hBr9_d := hBr9
        have hBs_d := hBs
        have hBu_d := hBu
        have hBz_d := hBz
        have hBi_d := hBi
        refine d_val 0 78 (op := (Go.Op.load 27 (Go.Operand.tmp 11))) hF hS (by kernel_rfl) (fun W hW => x_ldW wide27 (m11_d.k2 hW (by omega)) rfl rfl) (by kernel_rfl) (by decide) fun a hF => ?_
        refine d_val 2 80 (op := (Go.Op.load 27 (Go.Operand.tmp 5))) hF hS (by kernel_rfl) (fun W hW => x_ldW wide27 (m5_d.k2 hW (by omega)) rfl rfl) (by kernel_rfl) (by decide) fun a hF => ?_
        refine d_val 4 82 (op := (Go.Op.move (Go.Operand.tmp 12))) hF hS (by kernel_rfl) (fun W hW => x_move rfl) (by kernel_rfl) (by decide) fun a hF => ?_
        refine d_val 5 83 (op := (Go.Op.load 27 (Go.Operand.tmp 6))) hF hS (by kernel_rfl) (fun W hW => x_ldW wide27 (m6_d.k2 hW (by omega)) rfl rfl) (by kernel_rfl) (by decide) fun a hF => ?_
        refine d_one 1 (some 79) (Go.Op.call (Go.Call.mk (Go.Callee.value (Go.Operand.func 35)) #[(Go.Operand.tmp 78)] #[27])) (by kernel_rfl) (by kernel_rfl) fun ty pos af => ?_
        refine s_callB [_] hF (enters_of Try.func35 (by kernel_rfl) rfl) rfl (by decide) ((Size33 ci yi w56 (hci.bel hBi)).mono fun e w' h => ⟨by rw [h.1, mN9 oi], h.2⟩) fun w58 a B59 hF => ?_
        have sB59 := B59.size
        have hB := hB.trans (B59.mono hB.size)
        have hBp := hBp.trans (B59.mono hBp.size)
        have hBq := hBq.trans (B59.mono hBq.size)
        have hBr9 := hBr9.trans (B59.mono hBr9.size)
        have hBs := hBs.trans (B59.mono hBs.size)
        have hBu := hBu.trans (B59.mono hBu.size)
        have hBz := hBz.trans (B59.mono hBz.size)
        have hBi := hBi.trans (B59.mono hBi.size)
        have m5 := m5.old B59
        have m6 := m6.old B59
        have m11 := m11.old B59
        have hS := hS.below B59
        refine s_end ⟨hS, ?_⟩
        refine d_one 3 (some 81) (Go.Op.call (Go.Call.mk (Go.Callee.value (Go.Operand.func 35)) #[(Go.Operand.tmp 80)] #[27])) (by kernel_rfl) (by kernel_rfl) fun ty pos af => ?_
        refine s_callB [_] hF (enters_of Try.func35 (by kernel_rfl) rfl) rfl (by decide) ((Size33 a0 x w58 (hx.bel hB)).mono fun e w' h => ⟨by rw [h.1, mN9 oa], h.2⟩) fun w60 a B61 hF => ?_
        have sB61 := B61.size
        have hB := hB.trans (B61.mono hB.size)
        have hBp := hBp.trans (B61.mono hBp.size)
        have hBq := hBq.trans (B61.mono hBq.size)
        have hBr9 := hBr9.trans (B61.mono hBr9.size)
        have hBs := hBs.trans (B61.mono hBs.size)
        have hBu := hBu.trans (B61.mono hBu.size)
        have hBz := hBz.trans (B61.mono hBz.size)
        have hBi := hBi.trans (B61.mono hBi.size)
        have m5 := m5.old B61
        have m6 := m6.old B61
        have m11 := m11.old B61
        have hS := hS.below B61
        refine s_end ⟨hS, ?_⟩
        refine d_one 6 (some 84) (Go.Op.call (Go.Call.mk (Go.Callee.value (Go.Operand.func 35)) #[(Go.Operand.tmp 83)] #[27])) (by kernel_rfl) (by kernel_rfl) fun ty pos af => ?_
        refine s_callB [_] hF (enters_of Try.func35 (by kernel_rfl) rfl) rfl (by decide) ((Size33 v0 y w60 (hy.bel hB)).mono fun e w' h => ⟨by rw [h.1, mN9 ov_], h.2⟩) fun w62 a B63 hF => ?_
        have sB63 := B63.size
        have hB := hB.trans (B63.mono hB.size)
        have hBp := hBp.trans (B63.mono hBp.size)
        have hBq := hBq.trans (B63.mono hBq.size)
        have hBr9 := hBr9.trans (B63.mono hBr9.size)
        have hBs := hBs.trans (B63.mono hBs.size)
        have hBu := hBu.trans (B63.mono hBu.size)
        have hBz := hBz.trans (B63.mono hBz.size)
        have hBi := hBi.trans (B63.mono hBi.size)
        have m5 := m5.old B63
        have m6 := m6.old B63
        have m11 := m11.old B63
        have hS := hS.below B63
        refine s_end ⟨hS, ?_⟩
        refine d_val 7 85 (op := (Go.Op.binOp Go.BinOp.sub 3 (Go.Operand.tmp 84) (Go.Operand.const (Go.Value.int Go.IntKind.i64 1)) 3)) hF hS (by kernel_rfl) (fun W hW => x_sub (by omega) (by omega) rfl rfl) (by kernel_rfl) (by decide) fun a hF => ?_
        refine d_val 8 86 (op := (Go.Op.binOp Go.BinOp.mul 3 (Go.Operand.tmp 82) (Go.Operand.tmp 85) 3)) hF hS (by kernel_rfl) (fun W hW => x_mul (by omega) (by omega) rfl rfl) (by kernel_rfl) (by decide) fun a hF => ?_
        refine d_val 9 87 (op := (Go.Op.binOp Go.BinOp.add 3 (Go.Operand.tmp 81) (Go.Operand.tmp 86) 3)) hF hS (by kernel_rfl) (fun W hW => x_add (by omega) (by omega) rfl rfl) (by kernel_rfl) (by decide) fun a hF => ?_
        refine d_val 10 88 (op := (Go.Op.binOp Go.BinOp.eql 3 (Go.Operand.tmp 79) (Go.Operand.tmp 87) 3)) hF hS (by kernel_rfl) (fun W hW => x_eql (b := true) (decide_eq_true (by omega)) rfl rfl) (by kernel_rfl) (by decide) fun a hF => ?_
        refine d_val 11 89 (op := (Go.Op.move (Go.Operand.tmp 88))) hF hS (by kernel_rfl) (fun W hW => x_move rfl) (by kernel_rfl) (by decide) fun a hF => ?_
        refine d_valg 12 90 89 (j := 11) (want := true) (op := (Go.Op.load 27 (Go.Operand.tmp 5))) hF hS (by kernel_rfl) (by kernel_rfl) rfl (fun W hW => x_ldW wide27 (m5_d.k2 hW (by omega)) rfl rfl) (by kernel_rfl) (by decide) fun a hF => ?_
        refine d_oneg 13 89 (some 91) (Go.Op.call (Go.Call.mk (Go.Callee.value (Go.Operand.func 41)) #[(Go.Operand.tmp 90)] #[27])) (j := 11) (want := true) hF (by kernel_rfl) (by kernel_rfl) (by kernel_rfl) rfl fun ty pos af => ?_
        refine s_callB [_] hF (enters_of Try.func41 (by kernel_rfl) rfl) rfl (by decide) ((Loose36 a0 x w62 (hx.bel hB)).mono fun e w' h => ⟨by rw [h.1, looseR_ok oa], h.2⟩) fun w64 a B65 hF => ?_
        have sB65 := B65.size
        have hB := hB.trans (B65.mono hB.size)
        have hBp := hBp.trans (B65.mono hBp.size)
        have hBq := hBq.trans (B65.mono hBq.size)
        have hBr9 := hBr9.trans (B65.mono hBr9.size)
        have hBs := hBs.trans (B65.mono hBs.size)
        have hBu := hBu.trans (B65.mono hBu.size)
        have hBz := hBz.trans (B65.mono hBz.size)
        have hBi := hBi.trans (B65.mono hBi.size)
        have m5 := m5.old B65
        have m6 := m6.old B65
        have m11 := m11.old B65
        have hS := hS.below B65
        refine s_end ⟨hS, ?_⟩
        refine d_valg 14 92 89 (j := 11) (want := true) (op := (Go.Op.binOp Go.BinOp.gtr 3 (Go.Operand.tmp 91) (Go.Operand.const (Go.Value.int Go.IntKind.i64 1)) 3)) hF hS (by kernel_rfl) (by kernel_rfl) rfl (fun W hW => x_gtr (b := true) (decide_eq_true (by omega)) rfl rfl) (by kernel_rfl) (by decide) fun a hF => ?_
        refine d_valg 15 93 89 (j := 11) (want := true) (op := (Go.Op.move (Go.Operand.tmp 92))) hF hS (by kernel_rfl) (by kernel_rfl) rfl (fun W hW => x_move rfl) (by kernel_rfl) (by decide) fun a hF => ?_
        refine d_skip 16 94 93 (j := 15) (want := false) (op := (Go.Op.move (Go.Operand.tmp 12))) hF hS (by kernel_rfl) (by kernel_rfl) rfl (by kernel_rfl) (by decide) fun a hF => ?_
        refine d_skip 17 95 93 (j := 15) (want := false) (op := (Go.Op.binOp Go.BinOp.gtr 3 (Go.Operand.tmp 94) (Go.Operand.const (Go.Value.int Go.IntKind.i64 0)) 3)) hF hS (by kernel_rfl) (by kernel_rfl) rfl (by kernel_rfl) (by decide) fun a hF => ?_
        refine d_valg 18 96 89 (j := 11) (want := true) (op := (Go.Op.pick (Go.Operand.tmp 93) (Go.Operand.const (Go.Value.bool true)) (Go.Operand.tmp 95))) hF hS (by kernel_rfl) (by kernel_rfl) rfl (fun W hW => x_pick (b := true) rfl rfl) (by kernel_rfl) (by decide) fun a hF => ?_
        refine d_valg 19 97 89 (j := 11) (want := true) (op := (Go.Op.move (Go.Operand.tmp 96))) hF hS (by kernel_rfl) (by kernel_rfl) rfl (fun W hW => x_move rfl) (by kernel_rfl) (by decide) fun a hF => ?_
        refine d_skip 20 98 97 (j := 19) (want := false) (op := (Go.Op.load 27 (Go.Operand.tmp 11))) hF hS (by kernel_rfl) (by kernel_rfl) rfl (by kernel_rfl) (by decide) fun a hF => ?_
        refine d_skip 21 99 97 (j := 19) (want := false) (op := (Go.Op.call (Go.Call.mk (Go.Callee.value (Go.Operand.func 41)) #[(Go.Operand.tmp 98)] #[27]))) hF hS (by kernel_rfl) (by kernel_rfl) rfl (by kernel_rfl) (by decide) fun a hF => ?_
        refine d_skip 22 100 97 (j := 19) (want := false) (op := (Go.Op.binOp Go.BinOp.eql 3 (Go.Operand.tmp 99) (Go.Operand.const (Go.Value.int Go.IntKind.i64 0)) 3)) hF hS (by kernel_rfl) (by kernel_rfl) rfl (by kernel_rfl) (by decide) fun a hF => ?_
        refine d_valg 23 101 89 (j := 11) (want := true) (op := (Go.Op.pick (Go.Operand.tmp 97) (Go.Operand.const (Go.Value.bool true)) (Go.Operand.tmp 100))) hF hS (by kernel_rfl) (by kernel_rfl) rfl (fun W hW => x_pick (b := true) rfl rfl) (by kernel_rfl) (by decide) fun a hF => ?_
        refine d_val 24 102 (op := (Go.Op.pick (Go.Operand.tmp 89) (Go.Operand.tmp 101) (Go.Operand.const (Go.Value.bool false)))) hF hS (by kernel_rfl) (fun W hW => x_pick (b := true) rfl rfl) (by kernel_rfl) (by decide) fun a hF => ?_
        refine d_val 25 103 (op := (Go.Op.move (Go.Operand.tmp 102))) hF hS (by kernel_rfl) (fun W hW => x_move rfl) (by kernel_rfl) (by decide) fun a hF => ?_
        refine d_oneg 26 103 (some 104) (Go.Op.call (Go.Call.mk (Go.Callee.value (Go.Operand.func 11)) #[] #[])) (j := 25) (want := true) hF (by kernel_rfl) (by kernel_rfl) (by kernel_rfl) rfl fun ty pos af => ?_
        refine s_callB [] hF (enters_of Try.func11 (by kernel_rfl) rfl) rfl (by decide) (awake15 w64) fun w66 a B67 hF => ?_
        have sB67 := B67.size
        have hB := hB.trans (B67.mono hB.size)
        have hBp := hBp.trans (B67.mono hBp.size)
        have hBq := hBq.trans (B67.mono hBq.size)
        have hBr9 := hBr9.trans (B67.mono hBr9.size)
        have hBs := hBs.trans (B67.mono hBs.size)
        have hBu := hBu.trans (B67.mono hBu.size)
        have hBz := hBz.trans (B67.mono hBz.size)
        have hBi := hBi.trans (B67.mono hBi.size)
        have m5 := m5.old B67
        have m6 := m6.old B67
        have m11 := m11.old B67
        have hS := hS.below B67
        refine s_end ⟨hS, ?_⟩
        refine d_val 27 105 (op := (Go.Op.pick (Go.Operand.tmp 103) (Go.Operand.tmp 104) (Go.Operand.const (Go.Value.bool false)))) hF hS (by kernel_rfl) (fun W hW => x_pick (b := true) rfl rfl) (by kernel_rfl) (by decide) fun a hF => ?_
        refine d_val 28 10 (op := (Go.Op.assign (Go.Operand.tmp 105))) hF hS (by kernel_rfl) (fun W hW => x_assign rfl) (by kernel_rfl) (by decide) fun a hF => ?_
        refine d_end (by kernel_rfl) (hK16 _ _ ?_)
        refine wp_ret (res_slot hF rfl rfl ⟨rfl, hB⟩)
      · skip
        refine dk2_seq (w54.heap.size) (w54.heap.size) (ops := regOps Try.f7 10) (N := 29) (by kernel_rfl) wide_orders (by kernel_rfl) fun w68 hw68 B69 hS K17 hK17 => ?_
        have zw68 : w68.heap.size = w54.heap.size := by rw [hw68]
        have sB69 := B69.size
        have hB := hB.trans (B69.mono hB.size)
        have hBp := hBp.trans (B69.mono hBp.size)
        have hBq := hBq.trans (B69.mono hBq.size)
        have hBr9 := hBr9.trans (B69.mono hBr9.size)
        have hBs := hBs.trans (B69.mono hBs.size)
        have hBu := hBu.trans (B69.mono hBu.size)
        have hBz := hBz.trans (B69.mono hBz.size)
        have hBi := hBi.trans (B69.mono hBi.size)
        have m5 := m5.old B69
        have m6 := m6.old B69
        have m11 := m11.old B69
        have m5_d := m5
        have m6_d := m6
        have m11_d := m11
        have hB_d := hB
        have hBp_d := hBp
        have hBq_d := hBq
        have hBr9_d := hBr9
        have hBs_d := hBs
        have hBu_d := hBu
        have hBz_d := hBz
        have hBi_d := hBi
        refine d_val 0 78 (op := (Go.Op.load 27 (Go.Operand.tmp 11))) hF hS (by kernel_rfl) (fun W hW => x_ldW wide27 (m11_d.k2 hW (by omega)) rfl rfl) (by kernel_rfl) (by decide) fun a hF => ?_
        refine d_val 2 80 (op := (Go.Op.load 27 (Go.Operand.tmp 5))) hF hS (by kernel_rfl) (fun W hW => x_ldW wide27 (m5_d.k2 hW (by omega)) rfl rfl) (by kernel_rfl) (by decide) fun a hF => ?_
        refine d_val 4 82 (op := (Go.Op.move (Go.Operand.tmp 12))) hF hS (by kernel_rfl) (fun W hW => x_move rfl) (by kernel_rfl) (by decide) fun a hF => ?_
        refine d_val 5 83 (op := (Go.Op.load 27 (Go.Operand.tmp 6))) hF hS (by kernel_rfl) (fun W hW => x_ldW wide27 (m6_d.k2 hW (by omega)) rfl rfl) (by kernel_rfl) (by decide) fun a hF => ?_
        refine d_one 1 (some 79) (Go.Op.call (Go.Call.mk (Go.Callee.value (Go.Operand.func 35)) #[(Go.Operand.tmp 78)] #[27])) (by kernel_rfl) (by kernel_rfl) fun ty pos af => ?_
        refine s_callB [_] hF (enters_of Try.func35 (by kernel_rfl) rfl) rfl (by decide) ((Size33 ci yi w68 (hci.bel hBi)).mono fun e w' h => ⟨by rw [h.1, mN9 oi], h.2⟩) fun w70 a B71 hF => ?_
        have sB71 := B71.size
        have hB := hB.trans (B71.mono hB.size)
        have hBp := hBp.trans (B71.mono hBp.size)
        have hBq := hBq.trans (B71.mono hBq.size)
        have hBr9 := hBr9.trans (B71.mono hBr9.size)
        have hBs := hBs.trans (B71.mono hBs.size)
        have hBu := hBu.trans (B71.mono hBu.size)
        have hBz := hBz.trans (B71.mono hBz.size)
        have hBi := hBi.trans (B71.mono hBi.size)
        have m5 := m5.old B71
        have m6 := m6.old B71
        have m11 := m11.old B71
        have hS := hS.below B71
        refine s_end ⟨hS, ?_⟩
        refine d_one 3 (some 81) (Go.Op.call (Go.Call.mk (Go.Callee.value (Go.Operand.func 35)) #[(Go.Operand.tmp 80)] #[27])) (by kernel_rfl) (by kernel_rfl) fun ty pos af => ?_
        refine s_callB [_] hF (enters_of Try.func35 (by kernel_rfl) rfl) rfl (by decide) ((Size33 a0 x w70 (hx.bel hB)).mono fun e w' h => ⟨by rw [h.1, mN9 oa], h.2⟩) fun w72 a B73 hF => ?_
        have sB73 := B73.size
        have hB := hB.trans (B73.mono hB.size)
        have hBp := hBp.trans (B73.mono hBp.size)
        have hBq := hBq.trans (B73.mono hBq.size)
        have hBr9 := hBr9.trans (B73.mono hBr9.size)
        have hBs := hBs.trans (B73.mono hBs.size)
        have hBu := hBu.trans (B73.mono hBu.size)
        have hBz := hBz.trans (B73.mono hBz.size)
        have hBi := hBi.trans (B73.mono hBi.size)
        have m5 := m5.old B73
        have m6 := m6.old B73
        have m11 := m11.old B73
        have hS := hS.below B73
        refine s_end ⟨hS, ?_⟩
        refine d_one 6 (some 84) (Go.Op.call (Go.Call.mk (Go.Callee.value (Go.Operand.func 35)) #[(Go.Operand.tmp 83)] #[27])) (by kernel_rfl) (by kernel_rfl) fun ty pos af => ?_
        refine s_callB [_] hF (enters_of Try.func35 (by kernel_rfl) rfl) rfl (by decide) ((Size33 v0 y w72 (hy.bel hB)).mono fun e w' h => ⟨by rw [h.1, mN9 ov_], h.2⟩) fun w74 a B75 hF => ?_
        have sB75 := B75.size
        have hB := hB.trans (B75.mono hB.size)
        have hBp := hBp.trans (B75.mono hBp.size)
        have hBq := hBq.trans (B75.mono hBq.size)
        have hBr9 := hBr9.trans (B75.mono hBr9.size)
        have hBs := hBs.trans (B75.mono hBs.size)
        have hBu := hBu.trans (B75.mono hBu.size)
        have hBz := hBz.trans (B75.mono hBz.size)
        have hBi := hBi.trans (B75.mono hBi.size)
        have m5 := m5.old B75
        have m6 := m6.old B75
        have m11 := m11.old B75
        have hS := hS.below B75
        refine s_end ⟨hS, ?_⟩
        refine d_val 7 85 (op := (Go.Op.binOp Go.BinOp.sub 3 (Go.Operand.tmp 84) (Go.Operand.const (Go.Value.int Go.IntKind.i64 1)) 3)) hF hS (by kernel_rfl) (fun W hW => x_sub (by omega) (by omega) rfl rfl) (by kernel_rfl) (by decide) fun a hF => ?_
        refine d_val 8 86 (op := (Go.Op.binOp Go.BinOp.mul 3 (Go.Operand.tmp 82) (Go.Operand.tmp 85) 3)) hF hS (by kernel_rfl) (fun W hW => x_mul (by omega) (by omega) rfl rfl) (by kernel_rfl) (by decide) fun a hF => ?_
        refine d_val 9 87 (op := (Go.Op.binOp Go.BinOp.add 3 (Go.Operand.tmp 81) (Go.Operand.tmp 86) 3)) hF hS (by kernel_rfl) (fun W hW => x_add (by omega) (by omega) rfl rfl) (by kernel_rfl) (by decide) fun a hF => ?_
        refine d_val 10 88 (op := (Go.Op.binOp Go.BinOp.eql 3 (Go.Operand.tmp 79) (Go.Operand.tmp 87) 3)) hF hS (by kernel_rfl) (fun W hW => x_eql (b := true) (decide_eq_true (by omega)) rfl rfl) (by kernel_rfl) (by decide) fun a hF => ?_
        refine d_val 11 89 (op := (Go.Op.move (Go.Operand.tmp 88))) hF hS (by kernel_rfl) (fun W hW => x_move rfl) (by kernel_rfl) (by decide) fun a hF => ?_
        refine d_valg 12 90 89 (j := 11) (want := true) (op := (Go.Op.load 27 (Go.Operand.tmp 5))) hF hS (by kernel_rfl) (by kernel_rfl) rfl (fun W hW => x_ldW wide27 (m5_d.k2 hW (by omega)) rfl rfl) (by kernel_rfl) (by decide) fun a hF => ?_
        refine d_oneg 13 89 (some 91) (Go.Op.call (Go.Call.mk (Go.Callee.value (Go.Operand.func 41)) #[(Go.Operand.tmp 90)] #[27])) (j := 11) (want := true) hF (by kernel_rfl) (by kernel_rfl) (by kernel_rfl) rfl fun ty pos af => ?_
        refine s_callB [_] hF (enters_of Try.func41 (by kernel_rfl) rfl) rfl (by decide) ((Loose36 a0 x w74 (hx.bel hB)).mono fun e w' h => ⟨by rw [h.1, looseR_ok oa], h.2⟩) fun w76 a B77 hF => ?_
        have sB77 := B77.size
        have hB := hB.trans (B77.mono hB.size)
        have hBp := hBp.trans (B77.mono hBp.size)
        have hBq := hBq.trans (B77.mono hBq.size)
        have hBr9 := hBr9.trans (B77.mono hBr9.size)
        have hBs := hBs.trans (B77.mono hBs.size)
        have hBu := hBu.trans (B77.mono hBu.size)
        have hBz := hBz.trans (B77.mono hBz.size)
        have hBi := hBi.trans (B77.mono hBi.size)
        have m5 := m5.old B77
        have m6 := m6.old B77
        have m11 := m11.old B77
        have hS := hS.below B77
        refine s_end ⟨hS, ?_⟩
        refine d_valg 14 92 89 (j := 11) (want := true) (op := (Go.Op.binOp Go.BinOp.gtr 3 (Go.Operand.tmp 91) (Go.Operand.const (Go.Value.int Go.IntKind.i64 1)) 3)) hF hS (by kernel_rfl) (by kernel_rfl) rfl (fun W hW => x_gtr (b := false) (decide_eq_false (by omega)) rfl rfl) (by kernel_rfl) (by decide) fun a hF => ?_
        refine d_valg 15 93 89 (j := 11) (want := true) (op := (Go.Op.move (Go.Operand.tmp 92))) hF hS (by kernel_rfl) (by kernel_rfl) rfl (fun W hW => x_move rfl) (by kernel_rfl) (by decide) fun a hF => ?_
        refine d_valg 16 94 93 (j := 15) (want := false) (op := (Go.Op.move (Go.Operand.tmp 12))) hF hS (by kernel_rfl) (by kernel_rfl) rfl (fun W hW => x_move rfl) (by kernel_rfl) (by decide) fun a hF => ?_
        refine d_valg 17 95 93 (j := 15) (want := false) (op := (Go.Op.binOp Go.BinOp.gtr 3 (Go.Operand.tmp 94) (Go.Operand.const (Go.Value.int Go.IntKind.i64 0)) 3)) hF hS (by kernel_rfl) (by kernel_rfl) rfl (fun W hW => x_gtr (b := true) (decide_eq_true (by omega)) rfl rfl) (by kernel_rfl) (by decide) fun a hF => ?_
        refine d_valg 18 96 89 (j := 11) (want := true) (op := (Go.Op.pick (Go.Operand.tmp 93) (Go.Operand.const (Go.Value.bool true)) (Go.Operand.tmp 95))) hF hS (by kernel_rfl) (by kernel_rfl) rfl (fun W hW => x_pick (b := false) rfl rfl) (by kernel_rfl) (by decide) fun a hF => ?_
        refine d_valg 19 97 89 (j := 11) (want := true) (op := (Go.Op.move (Go.Operand.tmp 96))) hF hS (by kernel_rfl) (by kernel_rfl) rfl (fun W hW => x_move rfl) (by kernel_rfl) (by decide) fun a hF => ?_
        refine d_skip 20 98 97 (j := 19) (want := false) (op := (Go.Op.load 27 (Go.Operand.tmp 11))) hF hS (by kernel_rfl) (by kernel_rfl) rfl (by kernel_rfl) (by decide) fun a hF => ?_
        refine d_skip 21 99 97 (j := 19) (want := false) (op := (Go.Op.call (Go.Call.mk (Go.Callee.value (Go.Operand.func 41)) #[(Go.Operand.tmp 98)] #[27]))) hF hS (by kernel_rfl) (by kernel_rfl) rfl (by kernel_rfl) (by decide) fun a hF => ?_
        refine d_skip 22 100 97 (j := 19) (want := false) (op := (Go.Op.binOp Go.BinOp.eql 3 (Go.Operand.tmp 99) (Go.Operand.const (Go.Value.int Go.IntKind.i64 0)) 3)) hF hS (by kernel_rfl) (by kernel_rfl) rfl (by kernel_rfl) (by decide) fun a hF => ?_
        refine d_valg 23 101 89 (j := 11) (want := true) (op := (Go.Op.pick (Go.Operand.tmp 97) (Go.Operand.const (Go.Value.bool true)) (Go.Operand.tmp 100))) hF hS (by kernel_rfl) (by kernel_rfl) rfl (fun W hW => x_pick (b := true) rfl rfl) (by kernel_rfl) (by decide) fun a hF => ?_
        refine d_val 24 102 (op := (Go.Op.pick (Go.Operand.tmp 89) (Go.Operand.tmp 101) (Go.Operand.const (Go.Value.bool false)))) hF hS (by kernel_rfl) (fun W hW => x_pick (b := true) rfl rfl) (by kernel_rfl) (by decide) fun a hF => ?_
        refine d_val 25 103 (op := (Go.Op.move (Go.Operand.tmp 102))) hF hS (by kernel_rfl) (fun W hW => x_move rfl) (by kernel_rfl) (by decide) fun a hF => ?_
        refine d_oneg 26 103 (some 104) (Go.Op.call (Go.Call.mk (Go.Callee.value (Go.Operand.func 11)) #[] #[])) (j := 25) (want := true) hF (by kernel_rfl) (by kernel_rfl) (by kernel_rfl) rfl fun ty pos af => ?_
        refine s_callB [] hF (enters_of Try.func11 (by kernel_rfl) rfl) rfl (by decide) (awake15 w76) fun w78 a B79 hF => ?_
        have sB79 := B79.size
        have hB := hB.trans (B79.mono hB.size)
        have hBp := hBp.trans (B79.mono hBp.size)
        have hBq := hBq.trans (B79.mono hBq.size)
        have hBr9 := hBr9.trans (B79.mono hBr9.size)
        have hBs := hBs.trans (B79.mono hBs.size)
        have hBu := hBu.trans (B79.mono hBu.size)
        have hBz := hBz.trans (B79.mono hBz.size)
        have hBi := hBi.trans (B79.mono hBi.size)
        have m5 := m5.old B79
        have m6 := m6.old B79
        have m11 := m11.old B79
        have hS := hS.below B79
        refine s_end ⟨hS, ?_⟩
        refine d_val 27 105 (op := (Go.Op.pick (Go.Operand.tmp 103) (Go.Operand.tmp 104) (Go.Operand.const (Go.Value.bool false)))) hF hS (by kernel_rfl) (fun W hW => x_pick (b := true) rfl rfl) (by kernel_rfl) (by decide) fun a hF => ?_
        refine d_val 28 10 (op := (Go.Op.assign (Go.Operand.tmp 105))) hF hS (by kernel_rfl) (fun W hW => x_assign rfl) (by kernel_rfl) (by decide) fun a hF => ?_
        refine d_end (by kernel_rfl) (hK17 _ _ ?_)
        refine wp_ret (res_slot hF rfl rfl ⟨rfl, hB⟩)
      · have hl0 : ci.ess.loose 0 = 0 := by rw [hei]; exact loose_pu0 (by decide) v0.ess a0.ess 0 bda (by omega) (by omega)
        refine dk2_seq (w54.heap.size) (w54.heap.size) (ops := regOps Try.f7 10) (N := 29) (by kernel_rfl) wide_orders (by kernel_rfl) fun w80 hw80 B81 hS K18 hK18 => ?_
        have zw80 : w80.heap.size = w54.heap.size := by rw [hw80]
        have sB81 := B81.size
        have hB := hB.trans (B81.mono hB.size)
        have hBp := hBp.trans (B81.mono hBp.size)
        have hBq := hBq.trans (B81.mono hBq.size)
        have hBr9 := hBr9.trans (B81.mono hBr9.size)
        have hBs := hBs.trans (B81.mono hBs.size)
        have hBu := hBu.trans (B81.mono hBu.size)
        have hBz := hBz.trans (B81.mono hBz.size)
        have hBi := hBi.trans (B81.mono hBi.size)
        have m5 := m5.old B81
        have m6 := m6.old B81
        have m11 := m11.old B81
        have m5_d := m5
        have m6_d := m6
        have m11_d := m11
        have hB_d := hB
        have hBp_d := hBp
        have hBq_d := hBq
        have hBr9_d := hBr9
        have hBs_d := hBs
        have hBu_d := hBu
        have hBz_d := hBz
        have hBi_d := hBi
        refine d_val 0 78 (op := (Go.Op.load 27 (Go.Operand.tmp 11))) hF hS (by kernel_rfl) (fun W hW => x_ldW wide27 (m11_d.k2 hW (by omega)) rfl rfl) (by kernel_rfl) (by decide) fun a hF => ?_
        refine d_val 2 80 (op := (Go.Op.load 27 (Go.Operand.tmp 5))) hF hS (by kernel_rfl) (fun W hW => x_ldW wide27 (m5_d.k2 hW (by omega)) rfl rfl) (by kernel_rfl) (by decide) fun a hF => ?_
        refine d_val 4 82 (op := (Go.Op.move (Go.Operand.tmp 12))) hF hS (by kernel_rfl) (fun W hW => x_move rfl) (by kernel_rfl) (by decide) fun a hF => ?_
        refine d_val 5 83 (op := (Go.Op.load 27 (Go.Operand.tmp 6))) hF hS (by kernel_rfl) (fun W hW => x_ldW wide27 (m6_d.k2 hW (by omega)) rfl rfl) (by kernel_rfl) (by decide) fun a hF => ?_
        refine d_one 1 (some 79) (Go.Op.call (Go.Call.mk (Go.Callee.value (Go.Operand.func 35)) #[(Go.Operand.tmp 78)] #[27])) (by kernel_rfl) (by kernel_rfl) fun ty pos af => ?_
        refine s_callB [_] hF (enters_of Try.func35 (by kernel_rfl) rfl) rfl (by decide) ((Size33 ci yi w80 (hci.bel hBi)).mono fun e w' h => ⟨by rw [h.1, mN9 oi], h.2⟩) fun w82 a B83 hF => ?_
        have sB83 := B83.size
        have hB := hB.trans (B83.mono hB.size)
        have hBp := hBp.trans (B83.mono hBp.size)
        have hBq := hBq.trans (B83.mono hBq.size)
        have hBr9 := hBr9.trans (B83.mono hBr9.size)
        have hBs := hBs.trans (B83.mono hBs.size)
        have hBu := hBu.trans (B83.mono hBu.size)
        have hBz := hBz.trans (B83.mono hBz.size)
        have hBi := hBi.trans (B83.mono hBi.size)
        have m5 := m5.old B83
        have m6 := m6.old B83
        have m11 := m11.old B83
        have hS := hS.below B83
        refine s_end ⟨hS, ?_⟩
        refine d_one 3 (some 81) (Go.Op.call (Go.Call.mk (Go.Callee.value (Go.Operand.func 35)) #[(Go.Operand.tmp 80)] #[27])) (by kernel_rfl) (by kernel_rfl) fun ty pos af => ?_
        refine s_callB [_] hF (enters_of Try.func35 (by kernel_rfl) rfl) rfl (by decide) ((Size33 a0 x w82 (hx.bel hB)).mono fun e w' h => ⟨by rw [h.1, mN9 oa], h.2⟩) fun w84 a B85 hF => ?_
        have sB85 := B85.size
        have hB := hB.trans (B85.mono hB.size)
        have hBp := hBp.trans (B85.mono hBp.size)
        have hBq := hBq.trans (B85.mono hBq.size)
        have hBr9 := hBr9.trans (B85.mono hBr9.size)
        have hBs := hBs.trans (B85.mono hBs.size)
        have hBu := hBu.trans (B85.mono hBu.size)
        have hBz := hBz.trans (B85.mono hBz.size)
        have hBi := hBi.trans (B85.mono hBi.size)
        have m5 := m5.old B85
        have m6 := m6.old B85
        have m11 := m11.old B85
        have hS := hS.below B85
        refine s_end ⟨hS, ?_⟩
        refine d_one 6 (some 84) (Go.Op.call (Go.Call.mk (Go.Callee.value (Go.Operand.func 35)) #[(Go.Operand.tmp 83)] #[27])) (by kernel_rfl) (by kernel_rfl) fun ty pos af => ?_
        refine s_callB [_] hF (enters_of Try.func35 (by kernel_rfl) rfl) rfl (by decide) ((Size33 v0 y w84 (hy.bel hB)).mono fun e w' h => ⟨by rw [h.1, mN9 ov_], h.2⟩) fun w86 a B87 hF => ?_
        have sB87 := B87.size
        have hB := hB.trans (B87.mono hB.size)
        have hBp := hBp.trans (B87.mono hBp.size)
        have hBq := hBq.trans (B87.mono hBq.size)
        have hBr9 := hBr9.trans (B87.mono hBr9.size)
        have hBs := hBs.trans (B87.mono hBs.size)
        have hBu := hBu.trans (B87.mono hBu.size)
        have hBz := hBz.trans (B87.mono hBz.size)
        have hBi := hBi.trans (B87.mono hBi.size)
        have m5 := m5.old B87
        have m6 := m6.old B87
        have m11 := m11.old B87
        have hS := hS.below B87
        refine s_end ⟨hS, ?_⟩
        refine d_val 7 85 (op := (Go.Op.binOp Go.BinOp.sub 3 (Go.Operand.tmp 84) (Go.Operand.const (Go.Value.int Go.IntKind.i64 1)) 3)) hF hS (by kernel_rfl) (fun W hW => x_sub (by omega) (by omega) rfl rfl) (by kernel_rfl) (by decide) fun a hF => ?_
        refine d_val 8 86 (op := (Go.Op.binOp Go.BinOp.mul 3 (Go.Operand.tmp 82) (Go.Operand.tmp 85) 3)) hF hS (by kernel_rfl) (fun W hW => x_mul (by omega) (by omega) rfl rfl) (by kernel_rfl) (by decide) fun a hF => ?_
        refine d_val 9 87 (op := (Go.Op.binOp Go.BinOp.add 3 (Go.Operand.tmp 81) (Go.Operand.tmp 86) 3)) hF hS (by kernel_rfl) (fun W hW => x_add (by omega) (by omega) rfl rfl) (by kernel_rfl) (by decide) fun a hF => ?_
        refine d_val 10 88 (op := (Go.Op.binOp Go.BinOp.eql 3 (Go.Operand.tmp 79) (Go.Operand.tmp 87) 3)) hF hS (by kernel_rfl) (fun W hW => x_eql (b := true) (decide_eq_true (by omega)) rfl rfl) (by kernel_rfl) (by decide) fun a hF => ?_
        refine d_val 11 89 (op := (Go.Op.move (Go.Operand.tmp 88))) hF hS (by kernel_rfl) (fun W hW => x_move rfl) (by kernel_rfl) (by decide) fun a hF => ?_
        refine d_valg 12 90 89 (j := 11) (want := true) (op := (Go.Op.load 27 (Go.Operand.tmp 5))) hF hS (by kernel_rfl) (by kernel_rfl) rfl (fun W hW => x_ldW wide27 (m5_d.k2 hW (by omega)) rfl rfl) (by kernel_rfl) (by decide) fun a hF => ?_
        refine d_oneg 13 89 (some 91) (Go.Op.call (Go.Call.mk (Go.Callee.value (Go.Operand.func 41)) #[(Go.Operand.tmp 90)] #[27])) (j := 11) (want := true) hF (by kernel_rfl) (by kernel_rfl) (by kernel_rfl) rfl fun ty pos af => ?_
        refine s_callB [_] hF (enters_of Try.func41 (by kernel_rfl) rfl) rfl (by decide) ((Loose36 a0 x w86 (hx.bel hB)).mono fun e w' h => ⟨by rw [h.1, looseR_ok oa], h.2⟩) fun w88 a B89 hF => ?_
        have sB89 := B89.size
        have hB := hB.trans (B89.mono hB.size)
        have hBp := hBp.trans (B89.mono hBp.size)
        have hBq := hBq.trans (B89.mono hBq.size)
        have hBr9 := hBr9.trans (B89.mono hBr9.size)
        have hBs := hBs.trans (B89.mono hBs.size)
        have hBu := hBu.trans (B89.mono hBu.size)
        have hBz := hBz.trans (B89.mono hBz.size)
        have hBi := hBi.trans (B89.mono hBi.size)
        have m5 := m5.old B89
        have m6 := m6.old B89
        have m11 := m11.old B89
        have hS := hS.below B89
        refine s_end ⟨hS, ?_⟩
        refine d_valg 14 92 89 (j := 11) (want := true) (op := (Go.Op.binOp Go.BinOp.gtr 3 (Go.Operand.tmp 91) (Go.Operand.const (Go.Value.int Go.IntKind.i64 1)) 3)) hF hS (by kernel_rfl) (by kernel_rfl) rfl (fun W hW => x_gtr (b := false) (decide_eq_false (by omega)) rfl rfl) (by kernel_rfl) (by decide) fun a hF => ?_
        refine d_valg 15 93 89 (j := 11) (want := true) (op := (Go.Op.move (Go.Operand.tmp 92))) hF hS (by kernel_rfl) (by kernel_rfl) rfl (fun W hW => x_move rfl) (by kernel_rfl) (by decide) fun a hF => ?_
        refine d_valg 16 94 93 (j := 15) (want := false) (op := (Go.Op.move (Go.Operand.tmp 12))) hF hS (by kernel_rfl) (by kernel_rfl) rfl (fun W hW => x_move rfl) (by kernel_rfl) (by decide) fun a hF => ?_
        refine d_valg 17 95 93 (j := 15) (want := false) (op := (Go.Op.binOp Go.BinOp.gtr 3 (Go.Operand.tmp 94) (Go.Operand.const (Go.Value.int Go.IntKind.i64 0)) 3)) hF hS (by kernel_rfl) (by kernel_rfl) rfl (fun W hW => x_gtr (b := false) (decide_eq_false (by omega)) rfl rfl) (by kernel_rfl) (by decide) fun a hF => ?_
        refine d_valg 18 96 89 (j := 11) (want := true) (op := (Go.Op.pick (Go.Operand.tmp 93) (Go.Operand.const (Go.Value.bool true)) (Go.Operand.tmp 95))) hF hS (by kernel_rfl) (by kernel_rfl) rfl (fun W hW => x_pick (b := false) rfl rfl) (by kernel_rfl) (by decide) fun a hF => ?_
        refine d_valg 19 97 89 (j := 11) (want := true) (op := (Go.Op.move (Go.Operand.tmp 96))) hF hS (by kernel_rfl) (by kernel_rfl) rfl (fun W hW => x_move rfl) (by kernel_rfl) (by decide) fun a hF => ?_
        refine d_valg 20 98 97 (j := 19) (want := false) (op := (Go.Op.load 27 (Go.Operand.tmp 11))) hF hS (by kernel_rfl) (by kernel_rfl) rfl (fun W hW => x_ldW wide27 (m11_d.k2 hW (by omega)) rfl rfl) (by kernel_rfl) (by decide) fun a hF => ?_
        refine d_oneg 21 97 (some 99) (Go.Op.call (Go.Call.mk (Go.Callee.value (Go.Operand.func 41)) #[(Go.Operand.tmp 98)] #[27])) (j := 19) (want := false) hF (by kernel_rfl) (by kernel_rfl) (by kernel_rfl) rfl fun ty pos af => ?_
        refine s_callB [_] hF (enters_of Try.func41 (by kernel_rfl) rfl) rfl (by decide) ((Loose36 ci yi w88 (hci.bel hBi)).mono fun e w' h => ⟨by rw [h.1, looseR_ok oi], h.2⟩) fun w90 a B91 hF => ?_
        have sB91 := B91.size
        have hB := hB.trans (B91.mono hB.size)
        have hBp := hBp.trans (B91.mono hBp.size)
        have hBq := hBq.trans (B91.mono hBq.size)
        have hBr9 := hBr9.trans (B91.mono hBr9.size)
        have hBs := hBs.trans (B91.mono hBs.size)
        have hBu := hBu.trans (B91.mono hBu.size)
        have hBz := hBz.trans (B91.mono hBz.size)
        have hBi := hBi.trans (B91.mono hBi.size)
        have m5 := m5.old B91
        have m6 := m6.old B91
        have m11 := m11.old B91
        have hS := hS.below B91
        refine s_end ⟨hS, ?_⟩
        refine d_valg 22 100 97 (j := 19) (want := false) (op := (Go.Op.binOp Go.BinOp.eql 3 (Go.Operand.tmp 99) (Go.Operand.const (Go.Value.int Go.IntKind.i64 0)) 3)) hF hS (by kernel_rfl) (by kernel_rfl) rfl (fun W hW => x_eql (b := true) (decide_eq_true (by omega)) rfl rfl) (by kernel_rfl) (by decide) fun a hF => ?_
        refine d_valg 23 101 89 (j := 11) (want := true) (op := (Go.Op.pick (Go.Operand.tmp 97) (Go.Operand.const (Go.Value.bool true)) (Go.Operand.tmp 100))) hF hS (by kernel_rfl) (by kernel_rfl) rfl (fun W hW => x_pick (b := false) rfl rfl) (by kernel_rfl) (by decide) fun a hF => ?_
        refine d_val 24 102 (op := (Go.Op.pick (Go.Operand.tmp 89) (Go.Operand.tmp 101) (Go.Operand.const (Go.Value.bool false)))) hF hS (by kernel_rfl) (fun W hW => x_pick (b := true) rfl rfl) (by kernel_rfl) (by decide) fun a hF => ?_
        refine d_val 25 103 (op := (Go.Op.move (Go.Operand.tmp 102))) hF hS (by kernel_rfl) (fun W hW => x_move rfl) (by kernel_rfl) (by decide) fun a hF => ?_
        refine d_oneg 26 103 (some 104) (Go.Op.call (Go.Call.mk (Go.Callee.value (Go.Operand.func 11)) #[] #[])) (j := 25) (want := true) hF (by kernel_rfl) (by kernel_rfl) (by kernel_rfl) rfl fun ty pos af => ?_
        refine s_callB [] hF (enters_of Try.func11 (by kernel_rfl) rfl) rfl (by decide) (awake15 w90) fun w92 a B93 hF => ?_
        have sB93 := B93.size
        have hB := hB.trans (B93.mono hB.size)
        have hBp := hBp.trans (B93.mono hBp.size)
        have hBq := hBq.trans (B93.mono hBq.size)
        have hBr9 := hBr9.trans (B93.mono hBr9.size)
        have hBs := hBs.trans (B93.mono hBs.size)
        have hBu := hBu.trans (B93.mono hBu.size)
        have hBz := hBz.trans (B93.mono hBz.size)
        have hBi := hBi.trans (B93.mono hBi.size)
        have m5 := m5.old B93
        have m6 := m6.old B93
        have m11 := m11.old B93
        have hS := hS.below B93
        refine s_end ⟨hS, ?_⟩
        refine d_val 27 105 (op := (Go.Op.pick (Go.Operand.tmp 103) (Go.Operand.tmp 104) (Go.Operand.const (Go.Value.bool false)))) hF hS (by kernel_rfl) (fun W hW => x_pick (b := true) rfl rfl) (by kernel_rfl) (by decide) fun a hF => ?_
        refine d_val 28 10 (op := (Go.Op.assign (Go.Operand.tmp 105))) hF hS (by kernel_rfl) (fun W hW => x_assign rfl) (by kernel_rfl) (by decide) fun a hF => ?_
        refine d_end (by kernel_rfl) (hK18 _ _ ?_)
        refine wp_ret (res_slot hF rfl rfl ⟨rfl, hB⟩)
end Go.Proofs.Ytaclncmkdpjnlaa

namespace Go.Proofs.Ytaclncmkdpjnlaa
open Go.RowKit Go.Shelf Go.ChangeShapes Go.WideShapes
set_option linter.unusedVariables false
set_option linter.unusedSimpArgs false

section
variable {α : Type} {encA : α → List Value} {k : Nat}
theorem gfm_len : ∀ (xs : List α), (∀ x ∈ xs, (encA x).length = k) → (xs.flatMap encA).length = xs.length * k
  | [], _ => by simp
  | x :: xs, h => by
    rw [List.flatMap_cons, List.length_append, h x (by simp), gfm_len xs (fun y hy => h y (by simp [hy])), List.length_cons, Nat.succ_mul, Nat.add_comm]
theorem gfm_inv (hk : 0 < k) : ∀ (xs : List α) (j : Nat) (u : Value), (∀ x ∈ xs, (encA x).length = k) → (xs.flatMap encA)[j]? = some u → ∃ x, xs[j / k]? = some x ∧ (encA x)[j % k]? = some u
  | [], j, u, _, h => by simp at h
  | c :: xs, j, u, h32, h => by
    have h0 : (encA c).length = k := h32 c (by simp)
    rw [List.flatMap_cons] at h
    by_cases hj : j < k
    · rw [List.getElem?_append_left (by omega)] at h
      exact ⟨c, by rw [Nat.div_eq_of_lt hj]; rfl, by rw [Nat.mod_eq_of_lt hj]; exact h⟩
    · rw [List.getElem?_append_right (by omega), h0] at h
      obtain ⟨x, h1, h2⟩ := gfm_inv hk xs (j - k) u (fun y hy => h32 y (by simp [hy])) h
      have hkj : k ≤ j := by omega
      have e1 : j / k = (j - k) / k + 1 := Nat.div_eq_sub_div hk hkj
      have e2 : j % k = (j - k) % k := Nat.mod_eq_sub_mod hkj
      exact ⟨x, by rw [e1]; simpa using h1, by rw [e2]; exact h2⟩
end
end Go.Proofs.Ytaclncmkdpjnlaa

namespace Go.Proofs.Ytaclncmkdpjnlaa
open Go.RowKit Go.Shelf Go.ChangeShapes Go.WideShapes
set_option maxRecDepth 100000
set_option linter.unusedVariables false
set_option linter.unusedSimpArgs false

theorem cells24 : Try.prog.cellsOf 24 = 3 := by kernel_rfl
theorem cells3 : Try.prog.cellsOf 3 = 1 := by kernel_rfl
theorem cells22 : Try.prog.cellsOf 22 = 1 := by kernel_rfl
theorem okWide_str {P : Program} {w : World} {r : Reach} {base : Nat} {t : TypeId} {v : Value} {fs : Array Field} (ht : P.underlying t = some (.struct fs)) (h : Value.okWide P w r base t v) : ∃ cs, v = .agg cs ∧ cs.size = P.cellsOf t := by
  unfold Value.okWide at h
  rw [ht] at h
  obtain ⟨cs, h1, h2, _⟩ := h
  exact ⟨cs, h1, h2⟩
section
variable {H : Type} {enc : TypeId × Value → H} {w : World} {base : Nat} {spare : Nat → Bool} {held : Bool}
/-- A slice of levels, out of what its elements tell. -/
theorem open_lrow {n : Nat} {cs : List Value} {x : DataW H × List MemPlace} (good : C3 → Prop) (tell : ∀ m, m < n → ∀ cs' y, DataW.trod enc Try.prog w base spare held m 24 cs' = some y → ∃ c, good c ∧ cs' = lc c)
    (h : DataW.trod enc Try.prog w base spare held n 22 cs = some x) : ∃ a len cap, cs = [.slice a len cap] ∧ ∃ xs : List C3, Rd w (.slice a len cap) 3 xs.length (xs.flatMap lc) ∧ (∀ x ∈ xs, good x) ∧ xs.length ≤ 9223372036854775807 := by
  rcases DataW.trod_slice Try.underlying22 h with ⟨rfl, _⟩ | ⟨a, len, cap, elems, rest, m, hfu, rfl, _, _, hl, hm, hlen, hel, _, _⟩
  · exact ⟨none, 0, 0, rfl, [], Rd.nil _ _, by simp, by simp⟩
  · refine ⟨some a, len, cap, rfl, ?_⟩
    have one : ∀ i, i < len → ∃ d : C3, good d ∧ ∀ (j : Nat) u, (lc d)[j]? = some u → w.cell? ((a.add (i * 3)).add j) = some u := by
      intro i hil
      have h1 := hel i hil
      rw [List.getElem?_eq_getElem (by omega)] at h1
      obtain ⟨cs', hc', ht'⟩ := Option.bind_eq_some_iff.1 h1
      rw [cells24] at hc'
      obtain ⟨_, hcl, hat⟩ := World.cells?_some hc'
      obtain ⟨d, hd, rfl⟩ := tell m (by omega) _ _ ht'
      refine ⟨d, hd, fun j u hj => ?_⟩
      have hjl : j < 3 := (List.getElem?_eq_some_iff.1 hj).1
      have h2 := hat j (by omega)
      rw [h2, hj]
    have hml : len ≤ 9223372036854775807 := by unfold maxLen at hm; omega
    by_cases h0 : len = 0
    · subst h0
      exact ⟨[], ⟨by simp, .inl ⟨_, _, rfl, rfl, fun h => by cases h⟩⟩, by simp, by simp⟩
    · obtain ⟨b, off, spot⟩ := a
      obtain ⟨d0, hd0, hx0⟩ := one 0 (by omega)
      have hc0 := hx0 0 _ (List.getElem?_eq_getElem (show 0 < (lc d0).length by simp [lc]))
      have hspot : spot = none := by simpa [Addr.add] using World.cell?_spot hc0
      subst hspot
      have hb : b < w.heap.size := by
        have := World.block_lt_of_cell? w _ hc0
        rwa [addr_addn, addr_addn] at this
      have all : ∀ q, q ≤ len → ∃ ds : List C3, ds.length = q ∧ (∀ d ∈ ds, good d) ∧ ∀ i d, ds[i]? = some d → ∀ (j : Nat) u, (lc d)[j]? = some u → w.cell? ⟨b, off + i * 3 + j, none⟩ = some u := by
        intro q
        induction q with
        | zero => exact fun _ => ⟨[], rfl, by simp, by simp⟩
        | succ q ih =>
          intro hq
          obtain ⟨ds, h1, h2, h3⟩ := ih (by omega)
          obtain ⟨d, hd, hx⟩ := one q (by omega)
          refine ⟨ds ++ [d], by simp [h1], fun e he => ?_, fun i e he j u hj => ?_⟩
          · rcases List.mem_append.1 he with he | he
            · exact h2 e he
            · simp at he; subst he; exact hd
          · rw [List.getElem?_append] at he
            split at he
            · exact h3 i e he j u hj
            · next hge =>
              have hik : i = q := by
                have := (List.getElem?_eq_some_iff.1 he).1
                simp at this
                omega
              subst hik
              simp [h1] at he
              subst he
              have := hx j u hj
              rwa [addr_addn, addr_addn] at this
      obtain ⟨ds, h1, h2, h3⟩ := all len (Nat.le_refl _)
      refine ⟨ds, ⟨gfm_len (k := 3) ds (fun d hd => by simp [lc]), .inr ⟨b, off, cap, by rw [h1], by omega, hb, fun j u hj => ?_⟩⟩, h2, by omega⟩
      obtain ⟨d, e1, e2⟩ := gfm_inv (k := 3) (by decide) ds j u (fun d hd => by simp [lc]) hj
      have := h3 _ d e1 _ u e2
      have hdm := Nat.div_add_mod j 3
      rwa [show off + j / 3 * 3 + j % 3 = off + j by omega] at this
theorem rl_list {W : World} : ∀ (xs : List C3), (∀ x ∈ xs, ∃ l, RL W x l) → ∃ ls : List Lv, xs.length = ls.length ∧ ∀ (i : Nat) x l, xs[i]? = some x → ls[i]? = some l → RL W x l
  | [], _ => ⟨[], rfl, fun i x l h => by simp at h⟩
  | x :: xs, h => by
    obtain ⟨l, hl⟩ := h x (by simp)
    obtain ⟨ls, h1, h2⟩ := rl_list xs (fun y hy => h y (by simp [hy]))
    refine ⟨l :: ls, by simp [h1], fun i y m e1 e2 => ?_⟩
    cases i with
    | zero => simp at e1 e2; subst e1 e2; exact hl
    | succ i => exact h2 i y m (by simpa using e1) (by simpa using e2)
theorem open_lvl : ∀ (fuel : Nat) (cs : List Value) (x : DataW H × List MemPlace), DataW.trod enc Try.prog w base spare held fuel 24 cs = some x → ∃ c, (∃ l, RL w c l) ∧ cs = lc c := by
  intro fuel
  induction fuel using Nat.strongRecOn with
  | ind fuel ih =>
    intro cs x h
    obtain ⟨xs, n, hfu, _, hl, hlen, hf⟩ := DataW.trod_struct Try.underlying24 h
    rw [cells24] at hl
    have h0 : DataW.trod enc Try.prog w base spare held n 3 ((cs.drop 0).take (Try.prog.cellsOf 3)) = xs[0]? := hf 0 _ rfl
    have h1 : DataW.trod enc Try.prog w base spare held n 3 ((cs.drop 1).take (Try.prog.cellsOf 3)) = xs[1]? := hf 1 _ rfl
    have h2 : DataW.trod enc Try.prog w base spare held n 22 ((cs.drop 2).take (Try.prog.cellsOf 22)) = xs[2]? := hf 2 _ rfl
    rw [cells3] at h0 h1
    rw [cells22] at h2
    rw [List.getElem?_eq_getElem (by rw [hlen]; decide)] at h0 h1 h2
    match cs, hl with
    | [c0, c1, c2], _ =>
      simp only [List.drop_zero, List.drop_succ_cons, List.take_succ_cons, List.take_zero] at h0 h1 h2
      obtain ⟨z0, e0, _, _⟩ := DataW.trod_int Try.underlying3 h0
      obtain ⟨z1, e1, _, _⟩ := DataW.trod_int Try.underlying3 h1
      obtain ⟨a, len, cap, e2, ys, hR, hg, _⟩ := open_lrow (fun c => ∃ l, RL w c l) (fun m hm cs' y hy => ih m (by omega) cs' y hy) h2
      simp only [List.cons.injEq, and_true] at e0 e1 e2
      subst e0 e1 e2
      obtain ⟨ls, g1, g2⟩ := rl_list ys hg
      exact ⟨(z0, z1, .slice a len cap), ⟨.mk z0 z1 ls, .mk hR g1 g2⟩, rfl⟩
end
end Go.Proofs.Ytaclncmkdpjnlaa

namespace Go.Proofs.Ytaclncmkdpjnlaa
open Go.RowKit Go.Shelf Go.ChangeShapes Go.WideShapes
set_option maxRecDepth 100000
set_option linter.unusedVariables false
set_option linter.unusedSimpArgs false
theorem cells27 : Try.prog.cellsOf 27 = 8 := by kernel_rfl
theorem cells25 : Try.prog.cellsOf 25 = 1 := by kernel_rfl
theorem cells9 : Try.prog.cellsOf 9 = 1 := by kernel_rfl
theorem in64_of {n : Int} (h : (Lit.int .i64 n).wf = true) : in64 n := by
  have h2 : IntKind.i64.min = -9223372036854775808 := by decide
  have h3 : IntKind.i64.max = 9223372036854775807 := by decide
  simp only [Lit.wf, h2, h3, Bool.and_eq_true, decide_eq_true_eq] at h
  unfold in64
  omega
section
variable {H : Type} {enc : TypeId × Value → H} {w : World} {base : Nat} {spare : Nat → Bool} {held : Bool}
/-- A slice of terms, out of what its elements tell. -/
theorem open_trow {n : Nat} {cs : List Value} {x : DataW H × List MemPlace} (good : C8 → Prop) (tell : ∀ m, m < n → ∀ cs' y, DataW.trod enc Try.prog w base spare held m 27 cs' = some y → ∃ c, good c ∧ cs' = tc c)
    (h : DataW.trod enc Try.prog w base spare held n 25 cs = some x) : ∃ a len cap, cs = [.slice a len cap] ∧ ∃ xs : List C8, Rd w (.slice a len cap) 8 xs.length (xs.flatMap tc) ∧ (∀ x ∈ xs, good x) ∧ xs.length ≤ 9223372036854775807 := by
  rcases DataW.trod_slice Try.underlying25 h with ⟨rfl, _⟩ | ⟨a, len, cap, elems, rest, m, hfu, rfl, _, _, hl, hm, hlen, hel, _, _⟩
  · exact ⟨none, 0, 0, rfl, [], Rd.nil _ _, by simp, by simp⟩
  · refine ⟨some a, len, cap, rfl, ?_⟩
    have one : ∀ i, i < len → ∃ d : C8, good d ∧ ∀ (j : Nat) u, (tc d)[j]? = some u → w.cell? ((a.add (i * 8)).add j) = some u := by
      intro i hil
      have h1 := hel i hil
      rw [List.getElem?_eq_getElem (by omega)] at h1
      obtain ⟨cs', hc', ht'⟩ := Option.bind_eq_some_iff.1 h1
      rw [cells27] at hc'
      obtain ⟨_, hcl, hat⟩ := World.cells?_some hc'
      obtain ⟨d, hd, rfl⟩ := tell m (by omega) _ _ ht'
      refine ⟨d, hd, fun j u hj => ?_⟩
      have hjl : j < 8 := (List.getElem?_eq_some_iff.1 hj).1
      have h2 := hat j (by omega)
      rw [h2, hj]
    have hml : len ≤ 9223372036854775807 := by unfold maxLen at hm; omega
    by_cases h0 : len = 0
    · subst h0
      exact ⟨[], ⟨by simp, .inl ⟨_, _, rfl, rfl, fun h => by cases h⟩⟩, by simp, by simp⟩
    · obtain ⟨b, off, spot⟩ := a
      obtain ⟨d0, hd0, hx0⟩ := one 0 (by omega)
      have hc0 := hx0 0 _ (List.getElem?_eq_getElem (show 0 < (tc d0).length by simp [tc]))
      have hspot : spot = none := by simpa [Addr.add] using World.cell?_spot hc0
      subst hspot
      have hb : b < w.heap.size := by
        have := World.block_lt_of_cell? w _ hc0
        rwa [addr_addn, addr_addn] at this
      have all : ∀ q, q ≤ len → ∃ ds : List C8, ds.length = q ∧ (∀ d ∈ ds, good d) ∧ ∀ i d, ds[i]? = some d → ∀ (j : Nat) u, (tc d)[j]? = some u → w.cell? ⟨b, off + i * 8 + j, none⟩ = some u := by
        intro q
        induction q with
        | zero => exact fun _ => ⟨[], rfl, by simp, by simp⟩
        | succ q ih =>
          intro hq
          obtain ⟨ds, h1, h2, h3⟩ := ih (by omega)
          obtain ⟨d, hd, hx⟩ := one q (by omega)
          refine ⟨ds ++ [d], by simp [h1], fun e he => ?_, fun i e he j u hj => ?_⟩
          · rcases List.mem_append.1 he with he | he
            · exact h2 e he
            · simp at he; subst he; exact hd
          · rw [List.getElem?_append] at he
            split at he
            · exact h3 i e he j u hj
            · next hge =>
              have hik : i = q := by
                have := (List.getElem?_eq_some_iff.1 he).1
                simp at this
                omega
              subst hik
              simp [h1] at he
              subst he
              have := hx j u hj
              rwa [addr_addn, addr_addn] at this
      obtain ⟨ds, h1, h2, h3⟩ := all len (Nat.le_refl _)
      refine ⟨ds, ⟨gfm_len (k := 8) ds (fun d hd => by simp [tc]), .inr ⟨b, off, cap, by rw [h1], by omega, hb, fun j u hj => ?_⟩⟩, h2, by omega⟩
      obtain ⟨d, e1, e2⟩ := gfm_inv (k := 8) (by decide) ds j u (fun d hd => by simp [tc]) hj
      have := h3 _ d e1 _ u e2
      have hdm := Nat.div_add_mod j 8
      rwa [show off + j / 8 * 8 + j % 8 = off + j by omega] at this

theorem rc_make {W : World} {A : Nat → Prop} {k n : Int} {s : ByteArray} {l : C3} {lv : Lv} {vl vt : Value} {ls : List Lv} {ys : List C8} (hn : in64 n) (hs : s.size ≤ 9223372036854775807) (hll : ls.length ≤ 9223372036854775807) (hl : RLn W A l lv) (hls : RVn W A vl ls) (ht : Rn W A vt 8 ys.length (ys.flatMap tc)) (hy : ∀ y ∈ ys, ∃ c, RC W A c y ∧ c.fit) : ∃ c, RC W A c ⟨k, n, s, l, vl, vt⟩ ∧ c.fit := by
  have hok : Ok W A ⟨k, n, s, l, vl, vt⟩ := ⟨⟨_, hl⟩, _, hls⟩
  by_cases h1 : k = 1
  · exact ⟨.var n ys.length, ⟨h1, rfl, hn, ⟨_, ht⟩, hok⟩, trivial⟩
  by_cases h2 : k = 2
  · exact ⟨.sort lv ys.length, ⟨h2, hl, ⟨_, ht⟩, hok⟩, trivial⟩
  by_cases h7 : k = 7
  · exact ⟨.cst s ls ys.length, ⟨h7, rfl, hls, ⟨_, ht⟩, hok⟩, ⟨hs, hll⟩⟩
  by_cases ho : arT k < 0 ∨ (ys.length : Int) < arT k
  · exact ⟨.odd k ys.length, ⟨rfl, ho, ⟨_, ht⟩, hok⟩, trivial⟩
  by_cases h5 : k = 5
  · match ys, ht, hy, ho with
    | [], _, _, ho => subst h5; simp [arT] at ho
    | [_], _, _, ho => subst h5; simp [arT] at ho
    | [_, _], _, _, ho => subst h5; simp [arT] at ho
    | y :: z :: u :: rest, ht, hy, _ =>
      obtain ⟨a, ha, fa⟩ := hy y (by simp)
      obtain ⟨b, hb, fb⟩ := hy z (by simp)
      obtain ⟨c, hc, fc⟩ := hy u (by simp)
      exact ⟨.lt a b c rest.length, ⟨h5, ⟨y, z, u, rest.flatMap tc, by simpa using ht, ha, hb, hc⟩, hok⟩, ⟨fa, fb, fc⟩⟩
  · have hk : k = 3 ∨ k = 4 ∨ k = 6 := by unfold arT at ho; omega
    have h2' : arT k = 2 := by unfold arT; omega
    match ys, ht, hy, ho with
    | [], _, _, ho => simp [h2'] at ho
    | [_], _, _, ho => simp [h2'] at ho
    | y :: z :: rest, ht, hy, _ =>
      obtain ⟨a, ha, fa⟩ := hy y (by simp)
      obtain ⟨b, hb, fb⟩ := hy z (by simp)
      exact ⟨.two k a b rest.length, ⟨rfl, hk, ⟨y, z, rest.flatMap tc, by simpa using ht, ha, hb⟩, hok⟩, ⟨fa, fb⟩⟩
theorem open_trm : ∀ (fuel : Nat) (cs : List Value) (x : DataW H × List MemPlace), DataW.trod enc Try.prog w base spare held fuel 27 cs = some x → ∃ c8, (∃ c, RC w (fun k => k < w.heap.size) c c8 ∧ c.fit) ∧ cs = tc c8 := by
  intro fuel
  induction fuel using Nat.strongRecOn with
  | ind fuel ih =>
    intro cs x h
    obtain ⟨xs, n, hfu, _, hl, hlen, hf⟩ := DataW.trod_struct Try.underlying27 h
    rw [cells27] at hl
    have h0 : DataW.trod enc Try.prog w base spare held n 3 ((cs.drop 0).take (Try.prog.cellsOf 3)) = xs[0]? := hf 0 _ rfl
    have h1 : DataW.trod enc Try.prog w base spare held n 3 ((cs.drop 1).take (Try.prog.cellsOf 3)) = xs[1]? := hf 1 _ rfl
    have h2 : DataW.trod enc Try.prog w base spare held n 9 ((cs.drop 2).take (Try.prog.cellsOf 9)) = xs[2]? := hf 2 _ rfl
    have h3 : DataW.trod enc Try.prog w base spare held n 24 ((cs.drop 3).take (Try.prog.cellsOf 24)) = xs[3]? := hf 3 _ rfl
    have h4 : DataW.trod enc Try.prog w base spare held n 22 ((cs.drop 6).take (Try.prog.cellsOf 22)) = xs[4]? := hf 4 _ rfl
    have h5 : DataW.trod enc Try.prog w base spare held n 25 ((cs.drop 7).take (Try.prog.cellsOf 25)) = xs[5]? := hf 5 _ rfl
    rw [cells3] at h0 h1
    rw [cells9] at h2
    rw [cells24] at h3
    rw [cells22] at h4
    rw [cells25] at h5
    rw [List.getElem?_eq_getElem (by rw [hlen]; decide)] at h0 h1 h2 h3 h4 h5
    match cs, hl with
    | [c0, c1, c2, c3, c4, c5, c6, c7], _ =>
      simp only [List.drop_zero, List.drop_succ_cons, List.take_succ_cons, List.take_zero] at h0 h1 h2 h3 h4 h5
      obtain ⟨z0, e0, _, _⟩ := DataW.trod_int Try.underlying3 h0
      obtain ⟨z1, e1, _, hw1⟩ := DataW.trod_int Try.underlying3 h1
      obtain ⟨s, e2, _, hs⟩ := DataW.trod_string Try.underlying9 h2
      obtain ⟨l, ⟨lv, hlv⟩, e3⟩ := open_lvl _ _ _ h3
      obtain ⟨a, len, cap, e4, lrs, hlR, hlg, hll⟩ := open_lrow (fun c => ∃ l, RL w c l) (fun m hm cs' y hy => open_lvl m cs' y hy) h4
      obtain ⟨a', len', cap', e5, ys, hR, hg, _⟩ := open_trow (fun c8 => ∃ c, RC w (fun k => k < w.heap.size) c c8 ∧ c.fit) (fun m hm cs' y hy => ih m (by omega) cs' y hy) h5
      obtain ⟨ls, g1, g2⟩ := rl_list lrs hlg
      simp only [List.cons.injEq, and_true, lc] at e0 e1 e2 e3 e4 e5
      obtain ⟨e3, e3', e3''⟩ := e3
      subst e0 e1 e2 e3 e3' e3'' e4 e5
      refine ⟨⟨z0, z1, s, l, .slice a len cap, .slice a' len' cap'⟩, rc_make (in64_of hw1) (by unfold maxLen at hs; omega) (by omega) hlv.n ⟨lrs, hlR.n, g1, fun i x l e1 e2 => (g2 i x l e1 e2).n⟩ hR.n hg, rfl⟩
end
end Go.Proofs.Ytaclncmkdpjnlaa
