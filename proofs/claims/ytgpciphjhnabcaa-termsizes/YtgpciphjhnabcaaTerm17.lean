/- whole; Loose. -/
import Derived.Test.YtgpciphjhnabcaaTerm16
namespace Go.Proofs.Ytgpciphjhnabcaa
open Go.RowKit Go.Shelf
set_option linter.unusedVariables false
set_option linter.unusedSimpArgs false

/-- What whole lets pass. -/
def CT.wf (c : CT) : Prop := c.okV 6 ∧ c.size ≤ 400 ∧ c.dep ≤ 64
theorem CT.wf.ok {c : CT} (h : c.wf) : c.ok := ⟨by have := h.2.1; omega, by have := h.2.2; omega⟩
def PT.loose : PT → Int → Int
  | .var n, d => if d ≤ n then min (n - d + 1) 9223372036854775807 else 0
  | .two k p q, d => max (p.loose d) (q.loose (d + if k = 3 ∨ k = 4 then 1 else 0))
  | .lt p q r, d => max (p.loose d) (max (q.loose d) (r.loose (d + 1)))
  | .sort _, _ => 0
  | .cst _ _, _ => 0
  | .odd _, _ => 0
theorem PT.loose_nn : ∀ (p : PT) (d : Int), 0 ≤ p.loose d
  | .var n, d => by simp only [PT.loose]; split <;> omega
  | .two k p q, d => by have := p.loose_nn d; simp only [PT.loose]; omega
  | .lt p q r, d => by have := p.loose_nn d; simp only [PT.loose]; omega
  | .sort _, _ => Int.le_refl _
  | .cst _ _, _ => Int.le_refl _
  | .odd _, _ => Int.le_refl _
def mostL (ps : List Int) : Int := if ps.length = 0 then 0 else mxl ps
def Glo (c : CT) (d : Int) (ps : List Int) : Int := match c with
  | .var n _ => if d ≤ n then min (n - d + 1) 9223372036854775807 else 0
  | _ => mostL ps
theorem fold_loose : ∀ (c : CT) (d : Int), c.fold Glo d = c.ess.loose d
  | .two k p q m, d => by
    simp only [CT.fold, Glo, mostL, CT.ess, PT.loose, fold_loose p, fold_loose q, bnd2_0, bnd2_1, Int.add_zero, mxl, List.foldl_cons, List.foldl_nil, List.length_cons]
    have := p.ess.loose_nn d
    rw [if_neg (by omega)]
    omega
  | .lt p q r m, d => by
    simp only [CT.fold, Glo, mostL, CT.ess, PT.loose, fold_loose p, fold_loose q, fold_loose r, bnd3_0, bnd3_1, bnd3_2, Int.add_zero, mxl, List.foldl_cons, List.foldl_nil, List.length_cons]
    have := p.ess.loose_nn d
    rw [if_neg (by omega)]
    omega
  | .var .., d => rfl
  | .sort .., d => rfl
  | .cst .., d => rfl
  | .odd .., d => rfl
theorem Glo_kids {c : CT} {d : Int} : Lo (c.folds Glo d) := by
  intro z hz
  obtain ⟨i, hi, he⟩ := List.getElem_of_mem hz
  have hi' : i < c.kids.length := by rw [CT.folds_len] at hi; exact hi
  have h1 := CT.folds_get Glo (c := c) (d := d) (List.getElem?_eq_getElem hi')
  rw [List.getElem?_eq_getElem hi, he, fold_loose] at h1
  cases h1
  have := (CT.ess c.kids[i]).loose_nn (d + c.bnd i)
  omega

set_option maxRecDepth 100000 in
set_option maxHeartbeats 400000 in
theorem most79 (ks : List Int) (v : Value) (w0 : World) (hl : ks.length ≤ 1000000) (hLo : Lo ks) (hV : Rd w0 v 1 ks.length (ints ks)) : Calls Try.prog 79 #[v] w0 fun e w' => e = .returned (.int .i64 (mostL ks)) ∧ w' = w0 := by
  obtain ⟨av, cv, hve, _⟩ := hV.form
  subst hve
  refine calls_fs 8 [(0, .slice av ks.length cv)] Try.func79 rfl rfl rfl rfl rfl fun a hF => ?_
  refine wp_rs fun K1 hK1 => ?_
  refine s_val hF (x_assign rfl) (by decide) fun a hF => ?_
  refine s_end (hK1 _ _ ?_)
  refine wp_seq_k fun K2 hK2 => ?_
  rcases (show ks.length = 0 ∨ 0 < ks.length by omega) with hk | hk
  · skip
    refine wp_rs fun K4 hK4 => ?_
    refine s_val hF (x_move rfl) (by decide) fun a hF => ?_
    refine s_val hF (x_len Try.underlying83 rfl) (by decide) fun a hF => ?_
    refine s_val hF (x_eql (b := true) (decide_eq_true (by omega)) rfl rfl) (by decide) fun a hF => ?_
    refine s_end (hK4 _ _ ?_)
    refine wp_if hF rfl ?_
    refine wp_rs fun K5 hK5 => ?_
    refine s_val hF (x_assign rfl) (by decide) fun a hF => ?_
    refine s_end (hK5 _ _ ?_)
    refine wp_ret (then_ret (res_slot hF rfl rfl ⟨by unfold mostL; rw [if_pos hk], rfl⟩))
  · skip
    refine wp_rs fun K6 hK6 => ?_
    refine s_val hF (x_move rfl) (by decide) fun a hF => ?_
    refine s_val hF (x_len Try.underlying83 rfl) (by decide) fun a hF => ?_
    refine s_val hF (x_eql (b := false) (decide_eq_false (by omega)) rfl rfl) (by decide) fun a hF => ?_
    refine s_end (hK6 _ _ ?_)
    refine wp_if hF rfl ?_
    refine wp_skip (hK2 _ _ ?_)
    refine wp_rs fun K7 hK7 => ?_
    refine s_val hF (x_move rfl) (by decide) fun a hF => ?_
    refine s_callS [_] hF (enters_of Try.func113 (by kernel_rfl) rfl) rfl (by decide) (max63 ks _ w0 hk (by omega) hLo hV) fun a hF => ?_
    refine s_val hF (x_assign rfl) (by decide) fun a hF => ?_
    refine s_end (hK7 _ _ ?_)
    refine wp_ret (res_slot hF rfl rfl ⟨by unfold mostL; rw [if_neg (by omega)], rfl⟩)

theorem fm_enc1 : ∀ zs : List Int, zs.flatMap enc1 = ints zs
  | [] => rfl
  | z :: zs => by rw [List.flatMap_cons, fm_enc1 zs]; rfl

set_option maxRecDepth 100000 in
set_option maxHeartbeats 400000 in
theorem clo77 (wl : World) (Sz : Nat) (hSz : Sz ≤ 20000) (D : Int) (hD : D ≤ 2000) (W : World) (c : CT) (x : C8) (d : Int) (kv : Value) (hK : Below wl.heap.size wl W) (hx : RC wl (fun k => k < wl.heap.size) c x) (hs : c.size ≤ Sz) (hd0 : 0 ≤ d) (hdD : d + c.dep ≤ D) (hkv : Rd W kv 1 c.kids.length ((c.folds Glo d).flatMap enc1)) :
    Calls Try.prog 77 ([tv x, .int .i64 d, kv] ++ []).toArray W fun e w' => e = .returned (.int .i64 (Glo c d (c.folds Glo d))) ∧ Below W.heap.size W w' := by
  have h3 := c.kids_le
  have hfl := CT.folds_len Glo c d
  rw [fm_enc1, ← hfl] at hkv
  have hrng : x.k = 1 → in64 x.n := fun h => by
    obtain ⟨n, m, rfl⟩ := hx.var_of h
    have h1 := hx.2.1
    have h2 := hx.2.2.1
    rw [h1]; exact h2
  have hres : ¬ (x.k = 1 ∧ d ≤ x.n) → Glo c d (c.folds Glo d) = mostL (c.folds Glo d) := by
    intro h
    cases c with
    | var n m =>
      have h1 := hx.1
      have h2 := hx.2.1
      simp only [Glo]
      rw [if_neg (by omega)]
      unfold mostL
      rw [if_pos (by rw [CT.folds_len]; rfl)]
    | _ => rfl
  have hB := Below.refl W.heap.size W
  have sB := hB.size
  refine calls_fs 23 [(0, tv x), (1, .int .i64 d), (2, kv)] Try.func77 rfl rfl rfl rfl rfl fun a hF => ?_
  refine wp_rs fun K1 hK1 => ?_
  refine s_box (tc x) hF (by decide) rfl rfl fun w2 b3 a eb3 m3 B3 zb3 hF => ?_
  have sB3 := B3.size
  have hB := hB.trans (B3.mono hB.size)
  refine s_val hF (x_assign rfl) (by decide) fun a hF => ?_
  refine s_end (hK1 _ _ ?_)
  refine wp_seq_k fun K2 hK2 => ?_
  rcases (show (x.k = 1 ∧ d ≤ x.n) ∨ (x.k = 1 ∧ ¬ d ≤ x.n) ∨ x.k ≠ 1 by omega) with hk | hk | hk
  · have hri := hrng hk.1
    unfold in64 at hri
    refine wp_rs fun K4 hK4 => ?_
    refine s_val hF (x_fa0 fa27_0 rfl) (by decide) fun a hF => ?_
    refine s_val hF (x_load rfl (m_load flat3 (m3.cell (j := 0) rfl))) (by decide) fun a hF => ?_
    refine s_val hF (x_eql (b := true) (decide_eq_true (by omega)) rfl rfl) (by decide) fun a hF => ?_
    refine s_val hF (x_move rfl) (by decide) fun a hF => ?_
    refine s_grd 10 hF rfl rfl rfl ?_
    refine s_val hF (x_fa0 fa27_1 rfl) (by decide) fun a hF => ?_
    refine s_grd 10 hF rfl rfl rfl ?_
    refine s_val hF (x_load rfl (m_load flat3 (m3.cell (j := 1) rfl))) (by decide) fun a hF => ?_
    refine s_grd 10 hF rfl rfl rfl ?_
    refine s_val hF (x_move rfl) (by decide) fun a hF => ?_
    refine s_grd 10 hF rfl rfl rfl ?_
    refine s_val hF (x_geq (b := true) (decide_eq_true (by omega)) rfl rfl) (by decide) fun a hF => ?_
    refine s_val hF (x_pick (b := true) rfl rfl) (by decide) fun a hF => ?_
    refine s_end (hK4 _ _ ?_)
    refine wp_if hF rfl ?_
    refine wp_rs fun K5 hK5 => ?_
    refine s_val hF (x_fa0 fa27_1 rfl) (by decide) fun a hF => ?_
    refine s_val hF (x_load rfl (m_load flat3 (m3.cell (j := 1) rfl))) (by decide) fun a hF => ?_
    refine s_val hF (x_move rfl) (by decide) fun a hF => ?_
    refine s_val hF (x_sub (by omega) (by omega) rfl rfl) (by decide) fun a hF => ?_
    refine s_callS [_, _] hF (enters_of Try.func78 (by kernel_rfl) rfl) rfl (by decide) (plus78 (x.n - d) 1 w2 (by omega) (by omega) (by decide)) fun a hF => ?_
    refine s_val hF (x_assign rfl) (by decide) fun a hF => ?_
    refine s_end (hK5 _ _ ?_)
    obtain ⟨n9, m9, rfl⟩ := hx.var_of hk.1
    have hn9 : x.n = n9 := hx.2.1
    refine wp_ret (then_ret (res_slot hF rfl rfl ⟨by simp only [Glo]; rw [← hn9, if_pos hk.2], hB⟩))
  · skip
    refine wp_rs fun K6 hK6 => ?_
    refine s_val hF (x_fa0 fa27_0 rfl) (by decide) fun a hF => ?_
    refine s_val hF (x_load rfl (m_load flat3 (m3.cell (j := 0) rfl))) (by decide) fun a hF => ?_
    refine s_val hF (x_eql (b := true) (decide_eq_true (by omega)) rfl rfl) (by decide) fun a hF => ?_
    refine s_val hF (x_move rfl) (by decide) fun a hF => ?_
    refine s_grd 10 hF rfl rfl rfl ?_
    refine s_val hF (x_fa0 fa27_1 rfl) (by decide) fun a hF => ?_
    refine s_grd 10 hF rfl rfl rfl ?_
    refine s_val hF (x_load rfl (m_load flat3 (m3.cell (j := 1) rfl))) (by decide) fun a hF => ?_
    refine s_grd 10 hF rfl rfl rfl ?_
    refine s_val hF (x_move rfl) (by decide) fun a hF => ?_
    refine s_grd 10 hF rfl rfl rfl ?_
    refine s_val hF (x_geq (b := false) (decide_eq_false (by omega)) rfl rfl) (by decide) fun a hF => ?_
    refine s_val hF (x_pick (b := true) rfl rfl) (by decide) fun a hF => ?_
    refine s_end (hK6 _ _ ?_)
    refine wp_if hF rfl ?_
    refine wp_skip (hK2 _ _ ?_)
    refine wp_rs fun K7 hK7 => ?_
    refine s_val hF (x_move rfl) (by decide) fun a hF => ?_
    refine s_callS [_] hF (enters_of Try.func79 (by kernel_rfl) rfl) rfl (by decide) (most79 (c.folds Glo d) kv w2 (by omega) Glo_kids (hkv.keep hB.size (fun b _ hb => hB.block b hb))) fun a hF => ?_
    refine s_val hF (x_assign rfl) (by decide) fun a hF => ?_
    refine s_end (hK7 _ _ ?_)
    refine wp_ret (res_slot hF rfl rfl ⟨by rw [hres (by omega)], hB⟩)
  · skip
    refine wp_rs fun K8 hK8 => ?_
    refine s_val hF (x_fa0 fa27_0 rfl) (by decide) fun a hF => ?_
    refine s_val hF (x_load rfl (m_load flat3 (m3.cell (j := 0) rfl))) (by decide) fun a hF => ?_
    refine s_val hF (x_eql (b := false) (decide_eq_false (by omega)) rfl rfl) (by decide) fun a hF => ?_
    refine s_val hF (x_move rfl) (by decide) fun a hF => ?_
    refine s_grdn 10 hF rfl rfl (by decide) fun a hF => ?_
    refine s_grdn 10 hF rfl rfl (by decide) fun a hF => ?_
    refine s_grdn 10 hF rfl rfl (by decide) fun a hF => ?_
    refine s_grdn 10 hF rfl rfl (by decide) fun a hF => ?_
    refine s_val hF (x_pick (b := false) rfl rfl) (by decide) fun a hF => ?_
    refine s_end (hK8 _ _ ?_)
    refine wp_if hF rfl ?_
    refine wp_skip (hK2 _ _ ?_)
    refine wp_rs fun K9 hK9 => ?_
    refine s_val hF (x_move rfl) (by decide) fun a hF => ?_
    refine s_callS [_] hF (enters_of Try.func79 (by kernel_rfl) rfl) rfl (by decide) (most79 (c.folds Glo d) kv w2 (by omega) Glo_kids (hkv.keep hB.size (fun b _ hb => hB.block b hb))) fun a hF => ?_
    refine s_val hF (x_assign rfl) (by decide) fun a hF => ?_
    refine s_end (hK9 _ _ ?_)
    refine wp_ret (res_slot hF rfl rfl ⟨by rw [hres (by omega)], hB⟩)

def CT.looseR (c : CT) : Int := if c.ok then c.ess.loose 0 else 0

set_option maxRecDepth 100000 in
set_option maxHeartbeats 400000 in
theorem Loose36 (c : CT) (x : C8) (w0 : World) (hx : RC w0 (fun k => k < w0.heap.size) c x) : Calls Try.prog 36 #[tv x] w0 fun e w' => e = .returned (.int .i64 c.looseR) ∧ Below w0.heap.size w0 w' := by
  have hB := Below.refl w0.heap.size w0
  have sB := hB.size
  refine calls_fs 7 [(0, tv x)] Try.func36 rfl rfl rfl rfl rfl fun a hF => ?_
  refine wp_rs fun K1 hK1 => ?_
  refine s_box (tc x) hF (by decide) rfl rfl fun w2 b1 a eb1 m1 B3 zb1 hF => ?_
  have sB3 := B3.size
  have hB := hB.trans (B3.mono hB.size)
  refine s_val hF (x_assign rfl) (by decide) fun a hF => ?_
  refine s_end (hK1 _ _ ?_)
  refine wp_seq_k fun K2 hK2 => ?_
  rcases (show ¬ c.ok ∨ c.ok by by_cases h : c.ok <;> simp [h]) with hk1 | hk1
  · skip
    refine wp_rs fun K4 hK4 => ?_
    refine s_val hF (x_ldW wide27 m1 rfl rfl) (by decide) fun a hF => ?_
    refine s_callB [_] hF (enters_of Try.func66 (by kernel_rfl) rfl) rfl (by decide) ((isGreat66 c x w2 (hx.bel hB)).mono fun e w' h => ⟨by rw [h.1, decide_eq_true hk1], h.2⟩) fun w4 a B5 hF => ?_
    have sB5 := B5.size
    have hB := hB.trans (B5.mono hB.size)
    have m1 := m1.old B5
    refine s_end (hK4 _ _ ?_)
    refine wp_if hF rfl ?_
    refine wp_rs fun K5 hK5 => ?_
    refine s_val hF (x_assign rfl) (by decide) fun a hF => ?_
    refine s_end (hK5 _ _ ?_)
    refine wp_ret (then_ret (res_slot hF rfl rfl ⟨by unfold CT.looseR; rw [if_neg hk1], hB⟩))
  · skip
    refine wp_rs fun K6 hK6 => ?_
    refine s_val hF (x_ldW wide27 m1 rfl rfl) (by decide) fun a hF => ?_
    refine s_callB [_] hF (enters_of Try.func66 (by kernel_rfl) rfl) rfl (by decide) ((isGreat66 c x w2 (hx.bel hB)).mono fun e w' h => ⟨by rw [h.1, decide_eq_false (fun h => h hk1)], h.2⟩) fun w6 a B7 hF => ?_
    have sB7 := B7.size
    have hB := hB.trans (B7.mono hB.size)
    have m1 := m1.old B7
    refine s_end (hK6 _ _ ?_)
    refine wp_if hF rfl ?_
    refine wp_skip (hK2 _ _ ?_)
    refine wp_rs fun K7 hK7 => ?_
    refine s_val hF (x_ldW wide27 m1 rfl rfl) (by decide) fun a hF => ?_
    refine s_callB [_, _, _] hF (enters_of Try.func76 (by kernel_rfl) rfl) rfl (by decide) (fold76 w6 77 [] (enters_of Try.func77 (by kernel_rfl) rfl) 2000 (by decide) 20000 Glo _ rfl (fun W c x d kv h1 h2 h3 h4 h5 h6 => clo77 w6 20000 (by decide) 2000 (by decide) W c x d kv h1 h2 h3 h4 h5 h6) (c.size + 1) c x 0 w6 (by omega) hk1.1 (hx.bel hB) (by decide) (by have := hk1.2; omega) (Below.refl _ _)) fun w8 a B9 hF => ?_
    have sB9 := B9.size
    have hB := hB.trans (B9.mono hB.size)
    have m1 := m1.old B9
    refine s_val hF (x_assign rfl) (by decide) fun a hF => ?_
    refine s_end (hK7 _ _ ?_)
    refine wp_ret (res_slot hF rfl rfl ⟨by unfold CT.looseR; rw [if_pos hk1, fold_loose], hB⟩)
end Go.Proofs.Ytgpciphjhnabcaa
