/- The reference's bare, leaf and walk, of terms without levels; its Lift. -/
import Derived.Test.YtaclncmkdpjnlaaTerm31
import Derived.Test.YtaclncmkdpjnlaaTermB
import Derived.ProofKit
import Derived.Deep.Slices
import Derived.ChangeSame
import Derived.ChangeArms
import Derived.SizedLaws
import Derived.Deep.Strs
namespace Go.Proofs.Ytaclncmkdpjnlaa
open Go.RowKit Go.Shelf
set_option linter.unusedVariables false
set_option linter.unusedSimpArgs false

/-- A node with its kind and its number alone. -/
def bareC : CT → C8
  | .var n _ => ⟨1, n, emptyB, (0, 0, nilS), nilS, nilS⟩
  | c => ⟨c.kd, 0, emptyB, (0, 0, nilS), nilS, nilS⟩
theorem bare_rest {W : World} {A : Nat → Prop} {c : CT} {x : C8} (h : RC W A c x) (hk : x.k ≠ 1) : bareC c = ⟨x.k, 0, emptyB, (0, 0, nilS), nilS, nilS⟩ := by
  have hkd : x.k = c.kd := h.kd
  cases c with
  | var n m => exact absurd h.1 hk
  | _ => simp only [bareC, hkd]
theorem leaf_odd {W : World} {A : Nat → Prop} {c : CT} {x : C8} (h : RC W A c x) : (∃ k m, c = .odd k m) ∨ ¬ (arT c.kd < 0 ∨ (c.len : Int) < arT c.kd) := by
  cases c with
  | odd k m => exact .inl ⟨_, _, rfl⟩
  | var n m => right; simp only [CT.kd, CT.len, show arT 1 = 0 from rfl]; omega
  | sort l m => right; simp only [CT.kd, CT.len, show arT 2 = 0 from rfl]; omega
  | cst s l m => right; simp only [CT.kd, CT.len, show arT 7 = 0 from rfl]; omega
  | two k p q m => right; have hk := h.2.1; have ha : arT k = 2 := (by rcases hk with rfl | rfl | rfl <;> rfl); simp only [CT.kd, CT.len, ha]; omega
  | lt p q r m => right; simp only [CT.kd, CT.len, show arT 5 = 3 from rfl]; omega
theorem plain_kd {c : CT} (hp : c.ess.plain) {W : World} {A : Nat → Prop} {x : C8} (h : RC W A c x) (ho : ¬ (arT c.kd < 0 ∨ (c.len : Int) < arT c.kd)) : x.k ≠ 2 ∧ x.k ≠ 7 := by
  have hkd : x.k = c.kd := h.kd
  cases c with
  | odd k m => exact absurd h.2.1 ho
  | var n m => simp only [CT.kd] at hkd; omega
  | sort l m => exact hp.elim
  | cst s l m => exact hp.elim
  | two k p q m => have hk := h.2.1; simp only [CT.kd] at hkd; omega
  | lt p q r m => simp only [CT.kd] at hkd; omega
theorem PT.plainK {c k : CT} {i : Nat} (h : c.ess.plain) (hk : c.kids[i]? = some k) : k.ess.plain := by
  cases c with
  | two _ a b _ =>
    rcases i with _ | _ | i
    · simp [CT.kids] at hk; subst hk; exact h.1
    · simp [CT.kids] at hk; subst hk; exact h.2
    · simp [CT.kids] at hk
  | lt a b c _ =>
    rcases i with _ | _ | _ | i
    · simp [CT.kids] at hk; subst hk; exact h.1
    · simp [CT.kids] at hk; subst hk; exact h.2.1
    · simp [CT.kids] at hk; subst hk; exact h.2.2
    · simp [CT.kids] at hk
  | _ => simp [CT.kids] at hk

set_option maxRecDepth 100000 in
set_option maxHeartbeats 1600000 in
theorem bare124 (c : CT) (x : C8) (A : Nat → Prop) (wa w0 : World) (hx : RC wa A c x) (hp : c.ess.plain) : Calls Try.prog 105 #[tv x] w0 fun e w' => e = .returned (tv (bareC c)) ∧ Below w0.heap.size w0 w' := by
  have hkd : x.k = c.kd := hx.kd
  have h1x := hx.one
  have hB := Below.refl w0.heap.size w0
  have sB := hB.size
  refine calls_fs 37 [(0, tv x)] Try.func105 rfl rfl rfl rfl rfl fun a hF => ?_
  refine wp_rs fun K1 hK1 => ?_
  refine s_box (tc x) hF (by decide) rfl rfl fun w2 b1 a eb1 m1 B3 zb1 hF => ?_
  have sB3 := B3.size
  have hB := hB.trans (B3.mono hB.size)
  refine s_alloc hF (by decide) zero27 fun w4 b2 a eb2 m2 B5 zb2 hF => ?_
  have sB5 := B5.size
  have hB := hB.trans (B5.mono hB.size)
  have m1 := m1.old B5
  refine s_end (hK1 _ _ ?_)
  refine wp_seq_k fun K2 hK2 => ?_
  rcases leaf_odd hx with ⟨k, m, rfl⟩ | hlf
  · have hlf : arT (CT.odd k m).kd < 0 ∨ ((CT.odd k m).len : Int) < arT (CT.odd k m).kd := hx.2.1
    have hr : bareC (.odd k m) = ⟨x.k, 0, emptyB, (0, 0, nilS), nilS, nilS⟩ := by rw [hkd]; try rfl
    refine wp_rs fun K4 hK4 => ?_
    refine s_val hF (x_ldW wide27 m1 rfl rfl) (by decide) fun a hF => ?_
    refine s_callB [_] hF (enters_of Try.func59 (by kernel_rfl) rfl) rfl (by decide) ((leaf70 (.odd k m) x _ wa w4 hx).mono fun e w' h => ⟨by rw [h.1, decide_eq_true hlf], h.2⟩) fun w6 a B7 hF => ?_
    have sB7 := B7.size
    have hB := hB.trans (B7.mono hB.size)
    have m1 := m1.old B7
    have m2 := m2.old B7
    refine s_end (hK4 _ _ ?_)
    refine wp_if hF rfl ?_
    refine wp_rs fun K5 hK5 => ?_
    refine s_val hF (x_fa0 fa27_0 rfl) (by decide) fun a hF => ?_
    refine s_val hF (x_load rfl (m_load flat3 (m1.cell (j := 0) rfl))) (by decide) fun a hF => ?_
    refine s_val hF (x_build (vs := [(0, _)]) rfl (b27_0 _ _)) (by decide) fun a hF => ?_
    refine s_putW hF rfl rfl (size_wide wide27) m2 rfl (one_tc0 _ _ _ _ rfl) fun w10 m2 o11 => ?_
    have so11 := o11.size
    have hB := hB.trans (o11.below (by omega))
    have m1 := m1.only o11 (by omega)
    refine s_end (hK5 _ _ ?_)
    refine wp_ret (then_ret (res_cell hF rfl rfl m2 wide27 ⟨by rw [hr]; try rfl, hB⟩))
  · have hpk := plain_kd hp hx hlf
    refine wp_rs fun K6 hK6 => ?_
    refine s_val hF (x_ldW wide27 m1 rfl rfl) (by decide) fun a hF => ?_
    refine s_callB [_] hF (enters_of Try.func59 (by kernel_rfl) rfl) rfl (by decide) ((leaf70 c x _ wa w4 hx).mono fun e w' h => ⟨by rw [h.1, decide_eq_false hlf], h.2⟩) fun w12 a B13 hF => ?_
    have sB13 := B13.size
    have hB := hB.trans (B13.mono hB.size)
    have m1 := m1.old B13
    have m2 := m2.old B13
    refine s_end (hK6 _ _ ?_)
    refine wp_if hF rfl ?_
    refine wp_skip (hK2 _ _ ?_)
    refine wp_seq_k fun K7 hK7 => ?_
    rcases (show x.k = 1 ∨ x.k ≠ 1 by omega) with hk | hk
    · obtain ⟨n, m, rfl⟩ := hx.var_of hk
      have hn : x.n = n := hx.2.1
      have hr : bareC (.var n m) = ⟨x.k, x.n, emptyB, (0, 0, nilS), nilS, nilS⟩ := by rw [hk, hn]; rfl
      refine wp_rs fun K9 hK9 => ?_
      refine s_val hF (x_fa0 fa27_0 rfl) (by decide) fun a hF => ?_
      refine s_val hF (x_load rfl (m_load flat3 (m1.cell (j := 0) rfl))) (by decide) fun a hF => ?_
      refine s_end (hK9 _ _ ?_)
      refine wp_block ?_
      refine wp_rs fun K10 hK10 => ?_
      refine s_val hF (x_eql (b := true) (decide_eq_true (by omega)) rfl rfl) (by decide) fun a hF => ?_
      refine s_val hF (x_assign rfl) (by decide) fun a hF => ?_
      refine s_end (hK10 _ _ ?_)
      refine wp_if hF rfl ?_
      refine wp_rs fun K11 hK11 => ?_
      refine s_val hF (x_fa0 fa27_0 rfl) (by decide) fun a hF => ?_
      refine s_val hF (x_load rfl (m_load flat3 (m1.cell (j := 0) rfl))) (by decide) fun a hF => ?_
      refine s_val hF (x_fa0 fa27_1 rfl) (by decide) fun a hF => ?_
      refine s_val hF (x_load rfl (m_load flat3 (m1.cell (j := 1) rfl))) (by decide) fun a hF => ?_
      refine s_val hF (x_build (vs := [(0, _), (1, _)]) rfl (b27_01 _ _ _)) (by decide) fun a hF => ?_
      refine s_putW hF rfl rfl (size_wide wide27) m2 rfl (one_tc0 _ _ _ _ rfl) fun w16 m2 o17 => ?_
      have so17 := o17.size
      have hB := hB.trans (o17.below (by omega))
      have m1 := m1.only o17 (by omega)
      refine s_end (hK11 _ _ ?_)
      refine wp_ret (inb_ret (then_ret (res_cell hF rfl rfl m2 wide27 ⟨by rw [hr]; try rfl, hB⟩)))
    · have hr := bare_rest hx hk
      refine wp_rs fun K12 hK12 => ?_
      refine s_val hF (x_fa0 fa27_0 rfl) (by decide) fun a hF => ?_
      refine s_val hF (x_load rfl (m_load flat3 (m1.cell (j := 0) rfl))) (by decide) fun a hF => ?_
      refine s_end (hK12 _ _ ?_)
      refine wp_block ?_
      refine wp_rs fun K13 hK13 => ?_
      refine s_val hF (x_eql (b := false) (decide_eq_false (by omega)) rfl rfl) (by decide) fun a hF => ?_
      refine s_val hF (x_assign rfl) (by decide) fun a hF => ?_
      refine s_end (hK13 _ _ ?_)
      refine wp_if hF rfl ?_
      refine wp_rs fun K14 hK14 => ?_
      refine s_val hF (x_eql (b := false) (decide_eq_false (by omega)) rfl rfl) (by decide) fun a hF => ?_
      refine s_val hF (x_assign rfl) (by decide) fun a hF => ?_
      refine s_end (hK14 _ _ ?_)
      refine wp_if hF rfl ?_
      refine wp_rs fun K15 hK15 => ?_
      refine s_val hF (x_eql (b := false) (decide_eq_false (by omega)) rfl rfl) (by decide) fun a hF => ?_
      refine s_val hF (x_assign rfl) (by decide) fun a hF => ?_
      refine s_end (hK15 _ _ ?_)
      refine wp_if hF rfl ?_
      refine wp_skip (hK7 _ _ ?_)
      refine wp_rs fun K16 hK16 => ?_
      refine s_val hF (x_fa0 fa27_0 rfl) (by decide) fun a hF => ?_
      refine s_val hF (x_load rfl (m_load flat3 (m1.cell (j := 0) rfl))) (by decide) fun a hF => ?_
      refine s_val hF (x_build (vs := [(0, _)]) rfl (b27_0 _ _)) (by decide) fun a hF => ?_
      refine s_putW hF rfl rfl (size_wide wide27) m2 rfl (one_tc0 _ _ _ _ rfl) fun w20 m2 o21 => ?_
      have so21 := o21.size
      have hB := hB.trans (o21.below (by omega))
      have m1 := m1.only o21 (by omega)
      refine s_end (hK16 _ _ ?_)
      refine wp_ret (res_cell hF rfl rfl m2 wide27 ⟨by rw [hr]; try rfl, hB⟩)

theorem fa97_0 : fldB Try.prog 85 0 0 = true := by kernel_rfl
theorem fa97_1 : fldB Try.prog 85 1 1 = true := by kernel_rfl
theorem fa97_2 : fldB Try.prog 85 2 2 = true := by kernel_rfl
theorem fa97_3 : fldB Try.prog 85 3 3 = true := by kernel_rfl
def chv (dO f b : Int) (z : C8) (vl : Value) : List Value := [.int .i64 dO, .int .i64 f, .int .i64 b, .int .i64 z.k, .int .i64 z.n, .string z.s, .int .i64 z.l.1, .int .i64 z.l.2.1, z.l.2.2, z.ls, z.ts, vl]
def liftR (f b d n : Int) : Int := liftN f b d n
set_option maxRecDepth 100000 in
set_option maxHeartbeats 1600000 in
theorem leafL123 (f b : Int) (z : C8) (vl : Value) (hf : 0 ≤ f) (hb : -1048576 ≤ b ∧ b ≤ 1048576) (h1z : ∀ u ∈ chv 0 f b z vl, u.oneCell' = true) (n d : Int) (hn : in64 n) (hd : 0 ≤ d ∧ d ≤ 1000000) (w0 : World) : Calls Try.prog 104 #[.agg (chv 0 f b z vl).toArray, tv ⟨1, n, emptyB, (0, 0, nilS), nilS, nilS⟩, .int .i64 d] w0 fun e w' => e = .returned (tv ⟨1, liftN f b d n, emptyB, (0, 0, nilS), nilS, nilS⟩) ∧ Below w0.heap.size w0 w' := by
  unfold in64 at hn
  have hB := Below.refl w0.heap.size w0
  have sB := hB.size
  refine calls_fs 101 [(0, .agg (chv 0 f b z vl).toArray), (1, tv ⟨1, n, emptyB, (0, 0, nilS), nilS, nilS⟩), (2, .int .i64 d)] Try.func104 rfl rfl rfl rfl rfl fun a hF => ?_
  refine wp_rs fun K1 hK1 => ?_
  refine s_box ([.int .i64 0, .int .i64 f, .int .i64 b, .int .i64 z.k, .int .i64 z.n, .string z.s, .int .i64 z.l.1, .int .i64 z.l.2.1, z.l.2.2, z.ls, z.ts, vl]) hF (by decide) rfl rfl fun w2 b3 a eb3 m3 B3 zb3 hF => ?_
  have sB3 := B3.size
  have hB := hB.trans (B3.mono hB.size)
  refine s_box ([.int .i64 1, .int .i64 n, .string emptyB, .int .i64 0, .int .i64 0, nilS, nilS, nilS]) hF (by decide) rfl rfl fun w4 b4 a eb4 m4 B5 zb4 hF => ?_
  have sB5 := B5.size
  have hB := hB.trans (B5.mono hB.size)
  have m3 := m3.old B5
  refine s_alloc hF (by decide) zero27 fun w6 b6 a eb6 m6 B7 zb6 hF => ?_
  have sB7 := B7.size
  have hB := hB.trans (B7.mono hB.size)
  have m3 := m3.old B7
  have m4 := m4.old B7
  refine s_end (hK1 _ _ ?_)
  refine wp_seq_k fun K2 hK2 => ?_
  refine wp_rs fun K3 hK3 => ?_
  refine s_val hF (x_fa0 fa97_0 rfl) (by decide) fun a hF => ?_
  refine s_val hF (x_load rfl (m_load flat3 (m3.cell (j := 0) rfl))) (by decide) fun a hF => ?_
  refine s_end (hK3 _ _ ?_)
  refine wp_block ?_
  refine wp_rs fun K4 hK4 => ?_
  refine s_val hF (x_eql (b := true) (decide_eq_true (by omega)) rfl rfl) (by decide) fun a hF => ?_
  refine s_val hF (x_assign rfl) (by decide) fun a hF => ?_
  refine s_end (hK4 _ _ ?_)
  refine wp_if hF rfl ?_
  rcases (show n < 0 ∨ (0 ≤ n ∧ n - d < f) ∨ (0 ≤ n ∧ f ≤ n - d ∧ 0 < b ∧ 9223372036854775807 - b < n) ∨ (0 ≤ n ∧ f ≤ n - d ∧ 0 < b ∧ ¬ 9223372036854775807 - b < n) ∨ (0 ≤ n ∧ f ≤ n - d ∧ ¬ 0 < b) by omega) with hz | hz | hz | hz | hz
  · have hr : liftN f b d n = n := by unfold liftN; first | (rw [if_pos (by omega)]; omega) | (rw [if_neg (by omega)])
    refine wp_rs fun K6 hK6 => ?_
    refine s_val hF (x_fa0 fa27_0 rfl) (by decide) fun a hF => ?_
    refine s_val hF (x_load rfl (m_load flat3 (m4.cell (j := 0) rfl))) (by decide) fun a hF => ?_
    refine s_val hF (x_eql (b := true) (decide_eq_true (by omega)) rfl rfl) (by decide) fun a hF => ?_
    refine s_val hF (x_move rfl) (by decide) fun a hF => ?_
    refine s_grd 42 hF rfl rfl rfl ?_
    refine s_val hF (x_fa0 fa27_1 rfl) (by decide) fun a hF => ?_
    refine s_grd 42 hF rfl rfl rfl ?_
    refine s_val hF (x_load rfl (m_load flat3 (m4.cell (j := 1) rfl))) (by decide) fun a hF => ?_
    refine s_grd 42 hF rfl rfl rfl ?_
    refine s_val hF (x_geq (b := false) (decide_eq_false (by omega)) rfl rfl) (by decide) fun a hF => ?_
    refine s_val hF (x_pick (b := true) rfl rfl) (by decide) fun a hF => ?_
    refine s_val hF (x_move rfl) (by decide) fun a hF => ?_
    refine s_grdn 47 hF rfl rfl (by decide) fun a hF => ?_
    refine s_grdn 47 hF rfl rfl (by decide) fun a hF => ?_
    refine s_grdn 47 hF rfl rfl (by decide) fun a hF => ?_
    refine s_grdn 47 hF rfl rfl (by decide) fun a hF => ?_
    refine s_grdn 47 hF rfl rfl (by decide) fun a hF => ?_
    refine s_grdn 47 hF rfl rfl (by decide) fun a hF => ?_
    refine s_grdn 47 hF rfl rfl (by decide) fun a hF => ?_
    refine s_val hF (x_pick (b := false) rfl rfl) (by decide) fun a hF => ?_
    refine s_end (hK6 _ _ ?_)
    refine wp_if hF rfl ?_
    refine wp_skip (hK2 _ _ ?_)
    refine wp_rs fun K7 hK7 => ?_
    refine s_val hF (x_ldW wide27 m4 rfl rfl) (by decide) fun a hF => ?_
    refine s_putW hF rfl rfl (size_wide wide27) m6 rfl (by simp [Value.oneCell']) fun w10 m6 o11 => ?_
    have so11 := o11.size
    have hB := hB.trans (o11.below (by omega))
    have m3 := m3.only o11 (by omega)
    have m4 := m4.only o11 (by omega)
    refine s_end (hK7 _ _ ?_)
    refine wp_ret (res_cell hF rfl rfl m6 wide27 ⟨by rw [hr]; try rfl, hB⟩)
  · have hr : liftN f b d n = n := by unfold liftN; first | (rw [if_pos (by omega)]; omega) | (rw [if_neg (by omega)])
    refine wp_rs fun K8 hK8 => ?_
    refine s_val hF (x_fa0 fa27_0 rfl) (by decide) fun a hF => ?_
    refine s_val hF (x_load rfl (m_load flat3 (m4.cell (j := 0) rfl))) (by decide) fun a hF => ?_
    refine s_val hF (x_eql (b := true) (decide_eq_true (by omega)) rfl rfl) (by decide) fun a hF => ?_
    refine s_val hF (x_move rfl) (by decide) fun a hF => ?_
    refine s_grd 42 hF rfl rfl rfl ?_
    refine s_val hF (x_fa0 fa27_1 rfl) (by decide) fun a hF => ?_
    refine s_grd 42 hF rfl rfl rfl ?_
    refine s_val hF (x_load rfl (m_load flat3 (m4.cell (j := 1) rfl))) (by decide) fun a hF => ?_
    refine s_grd 42 hF rfl rfl rfl ?_
    refine s_val hF (x_geq (b := true) (decide_eq_true (by omega)) rfl rfl) (by decide) fun a hF => ?_
    refine s_val hF (x_pick (b := true) rfl rfl) (by decide) fun a hF => ?_
    refine s_val hF (x_move rfl) (by decide) fun a hF => ?_
    refine s_grd 47 hF rfl rfl rfl ?_
    refine s_val hF (x_fa0 fa27_1 rfl) (by decide) fun a hF => ?_
    refine s_grd 47 hF rfl rfl rfl ?_
    refine s_val hF (x_load rfl (m_load flat3 (m4.cell (j := 1) rfl))) (by decide) fun a hF => ?_
    refine s_grd 47 hF rfl rfl rfl ?_
    refine s_val hF (x_move rfl) (by decide) fun a hF => ?_
    refine s_grd 47 hF rfl rfl rfl ?_
    refine s_val hF (x_sub (by omega) (by omega) rfl rfl) (by decide) fun a hF => ?_
    refine s_grd 47 hF rfl rfl rfl ?_
    refine s_val hF (x_fa0 fa97_1 rfl) (by decide) fun a hF => ?_
    refine s_grd 47 hF rfl rfl rfl ?_
    refine s_val hF (x_load rfl (m_load flat3 (m3.cell (j := 1) rfl))) (by decide) fun a hF => ?_
    refine s_grd 47 hF rfl rfl rfl ?_
    refine s_val hF (x_geq (b := false) (decide_eq_false (by omega)) rfl rfl) (by decide) fun a hF => ?_
    refine s_val hF (x_pick (b := true) rfl rfl) (by decide) fun a hF => ?_
    refine s_end (hK8 _ _ ?_)
    refine wp_if hF rfl ?_
    refine wp_skip (hK2 _ _ ?_)
    refine wp_rs fun K9 hK9 => ?_
    refine s_val hF (x_ldW wide27 m4 rfl rfl) (by decide) fun a hF => ?_
    refine s_putW hF rfl rfl (size_wide wide27) m6 rfl (by simp [Value.oneCell']) fun w14 m6 o15 => ?_
    have so15 := o15.size
    have hB := hB.trans (o15.below (by omega))
    have m3 := m3.only o15 (by omega)
    have m4 := m4.only o15 (by omega)
    refine s_end (hK9 _ _ ?_)
    refine wp_ret (res_cell hF rfl rfl m6 wide27 ⟨by rw [hr]; try rfl, hB⟩)
  · have hr : liftN f b d n = 9223372036854775807 := by unfold liftN; first | (rw [if_pos (by omega)]; omega) | (rw [if_neg (by omega)])
    refine wp_rs fun K10 hK10 => ?_
    refine s_val hF (x_fa0 fa27_0 rfl) (by decide) fun a hF => ?_
    refine s_val hF (x_load rfl (m_load flat3 (m4.cell (j := 0) rfl))) (by decide) fun a hF => ?_
    refine s_val hF (x_eql (b := true) (decide_eq_true (by omega)) rfl rfl) (by decide) fun a hF => ?_
    refine s_val hF (x_move rfl) (by decide) fun a hF => ?_
    refine s_grd 42 hF rfl rfl rfl ?_
    refine s_val hF (x_fa0 fa27_1 rfl) (by decide) fun a hF => ?_
    refine s_grd 42 hF rfl rfl rfl ?_
    refine s_val hF (x_load rfl (m_load flat3 (m4.cell (j := 1) rfl))) (by decide) fun a hF => ?_
    refine s_grd 42 hF rfl rfl rfl ?_
    refine s_val hF (x_geq (b := true) (decide_eq_true (by omega)) rfl rfl) (by decide) fun a hF => ?_
    refine s_val hF (x_pick (b := true) rfl rfl) (by decide) fun a hF => ?_
    refine s_val hF (x_move rfl) (by decide) fun a hF => ?_
    refine s_grd 47 hF rfl rfl rfl ?_
    refine s_val hF (x_fa0 fa27_1 rfl) (by decide) fun a hF => ?_
    refine s_grd 47 hF rfl rfl rfl ?_
    refine s_val hF (x_load rfl (m_load flat3 (m4.cell (j := 1) rfl))) (by decide) fun a hF => ?_
    refine s_grd 47 hF rfl rfl rfl ?_
    refine s_val hF (x_move rfl) (by decide) fun a hF => ?_
    refine s_grd 47 hF rfl rfl rfl ?_
    refine s_val hF (x_sub (by omega) (by omega) rfl rfl) (by decide) fun a hF => ?_
    refine s_grd 47 hF rfl rfl rfl ?_
    refine s_val hF (x_fa0 fa97_1 rfl) (by decide) fun a hF => ?_
    refine s_grd 47 hF rfl rfl rfl ?_
    refine s_val hF (x_load rfl (m_load flat3 (m3.cell (j := 1) rfl))) (by decide) fun a hF => ?_
    refine s_grd 47 hF rfl rfl rfl ?_
    refine s_val hF (x_geq (b := true) (decide_eq_true (by omega)) rfl rfl) (by decide) fun a hF => ?_
    refine s_val hF (x_pick (b := true) rfl rfl) (by decide) fun a hF => ?_
    refine s_end (hK10 _ _ ?_)
    refine wp_if hF rfl ?_
    refine wp_rs fun K11 hK11 => ?_
    refine s_val hF (x_fa0 fa97_2 rfl) (by decide) fun a hF => ?_
    refine s_val hF (x_load rfl (m_load flat3 (m3.cell (j := 2) rfl))) (by decide) fun a hF => ?_
    refine s_val hF (x_gtr (b := true) (decide_eq_true (by omega)) rfl rfl) (by decide) fun a hF => ?_
    refine s_val hF (x_move rfl) (by decide) fun a hF => ?_
    refine s_grd 59 hF rfl rfl rfl ?_
    refine s_val hF (x_fa0 fa27_1 rfl) (by decide) fun a hF => ?_
    refine s_grd 59 hF rfl rfl rfl ?_
    refine s_val hF (x_load rfl (m_load flat3 (m4.cell (j := 1) rfl))) (by decide) fun a hF => ?_
    refine s_grd 59 hF rfl rfl rfl ?_
    refine s_val hF (x_fa0 fa97_2 rfl) (by decide) fun a hF => ?_
    refine s_grd 59 hF rfl rfl rfl ?_
    refine s_val hF (x_load rfl (m_load flat3 (m3.cell (j := 2) rfl))) (by decide) fun a hF => ?_
    refine s_grd 59 hF rfl rfl rfl ?_
    refine s_val hF (x_sub (by omega) (by omega) rfl rfl) (by decide) fun a hF => ?_
    refine s_grd 59 hF rfl rfl rfl ?_
    refine s_val hF (x_gtr (b := true) (decide_eq_true (by omega)) rfl rfl) (by decide) fun a hF => ?_
    refine s_val hF (x_pick (b := true) rfl rfl) (by decide) fun a hF => ?_
    refine s_end (hK11 _ _ ?_)
    refine wp_if hF rfl ?_
    refine wp_region_lit ?_
    refine s_val hF (x_fa0 fa27_1 rfl) (by decide) fun a hF => ?_
    refine s_put hF rfl rfl flat3 m4 (by first | (simp; done) | (simp [tc, lc]; done) | decide) rfl fun w16 m4 o17 => ?_
    have so17 := o17.size
    have hB := hB.trans (o17.below (by omega))
    have m3 := m3.only o17 (by omega)
    have m6 := m6.only o17 (by omega)
    refine s_end (hK2 _ _ ?_)
    refine wp_rs fun K12 hK12 => ?_
    refine s_val hF (x_ldW wide27 m4 rfl rfl) (by decide) fun a hF => ?_
    refine s_putW hF rfl rfl (size_wide wide27) m6 rfl (by simp [Value.oneCell']) fun w20 m6 o21 => ?_
    have so21 := o21.size
    have hB := hB.trans (o21.below (by omega))
    have m3 := m3.only o21 (by omega)
    have m4 := m4.only o21 (by omega)
    refine s_end (hK12 _ _ ?_)
    refine wp_ret (res_cell hF rfl rfl m6 wide27 ⟨by rw [hr]; try rfl, hB⟩)
  · have hr : liftN f b d n = max d (n + b) := by unfold liftN; first | (rw [if_pos (by omega)]; omega) | (rw [if_neg (by omega)])
    refine wp_rs fun K13 hK13 => ?_
    refine s_val hF (x_fa0 fa27_0 rfl) (by decide) fun a hF => ?_
    refine s_val hF (x_load rfl (m_load flat3 (m4.cell (j := 0) rfl))) (by decide) fun a hF => ?_
    refine s_val hF (x_eql (b := true) (decide_eq_true (by omega)) rfl rfl) (by decide) fun a hF => ?_
    refine s_val hF (x_move rfl) (by decide) fun a hF => ?_
    refine s_grd 42 hF rfl rfl rfl ?_
    refine s_val hF (x_fa0 fa27_1 rfl) (by decide) fun a hF => ?_
    refine s_grd 42 hF rfl rfl rfl ?_
    refine s_val hF (x_load rfl (m_load flat3 (m4.cell (j := 1) rfl))) (by decide) fun a hF => ?_
    refine s_grd 42 hF rfl rfl rfl ?_
    refine s_val hF (x_geq (b := true) (decide_eq_true (by omega)) rfl rfl) (by decide) fun a hF => ?_
    refine s_val hF (x_pick (b := true) rfl rfl) (by decide) fun a hF => ?_
    refine s_val hF (x_move rfl) (by decide) fun a hF => ?_
    refine s_grd 47 hF rfl rfl rfl ?_
    refine s_val hF (x_fa0 fa27_1 rfl) (by decide) fun a hF => ?_
    refine s_grd 47 hF rfl rfl rfl ?_
    refine s_val hF (x_load rfl (m_load flat3 (m4.cell (j := 1) rfl))) (by decide) fun a hF => ?_
    refine s_grd 47 hF rfl rfl rfl ?_
    refine s_val hF (x_move rfl) (by decide) fun a hF => ?_
    refine s_grd 47 hF rfl rfl rfl ?_
    refine s_val hF (x_sub (by omega) (by omega) rfl rfl) (by decide) fun a hF => ?_
    refine s_grd 47 hF rfl rfl rfl ?_
    refine s_val hF (x_fa0 fa97_1 rfl) (by decide) fun a hF => ?_
    refine s_grd 47 hF rfl rfl rfl ?_
    refine s_val hF (x_load rfl (m_load flat3 (m3.cell (j := 1) rfl))) (by decide) fun a hF => ?_
    refine s_grd 47 hF rfl rfl rfl ?_
    refine s_val hF (x_geq (b := true) (decide_eq_true (by omega)) rfl rfl) (by decide) fun a hF => ?_
    refine s_val hF (x_pick (b := true) rfl rfl) (by decide) fun a hF => ?_
    refine s_end (hK13 _ _ ?_)
    refine wp_if hF rfl ?_
    refine wp_rs fun K14 hK14 => ?_
    refine s_val hF (x_fa0 fa97_2 rfl) (by decide) fun a hF => ?_
    refine s_val hF (x_load rfl (m_load flat3 (m3.cell (j := 2) rfl))) (by decide) fun a hF => ?_
    refine s_val hF (x_gtr (b := true) (decide_eq_true (by omega)) rfl rfl) (by decide) fun a hF => ?_
    refine s_val hF (x_move rfl) (by decide) fun a hF => ?_
    refine s_grd 59 hF rfl rfl rfl ?_
    refine s_val hF (x_fa0 fa27_1 rfl) (by decide) fun a hF => ?_
    refine s_grd 59 hF rfl rfl rfl ?_
    refine s_val hF (x_load rfl (m_load flat3 (m4.cell (j := 1) rfl))) (by decide) fun a hF => ?_
    refine s_grd 59 hF rfl rfl rfl ?_
    refine s_val hF (x_fa0 fa97_2 rfl) (by decide) fun a hF => ?_
    refine s_grd 59 hF rfl rfl rfl ?_
    refine s_val hF (x_load rfl (m_load flat3 (m3.cell (j := 2) rfl))) (by decide) fun a hF => ?_
    refine s_grd 59 hF rfl rfl rfl ?_
    refine s_val hF (x_sub (by omega) (by omega) rfl rfl) (by decide) fun a hF => ?_
    refine s_grd 59 hF rfl rfl rfl ?_
    refine s_val hF (x_gtr (b := false) (decide_eq_false (by omega)) rfl rfl) (by decide) fun a hF => ?_
    refine s_val hF (x_pick (b := true) rfl rfl) (by decide) fun a hF => ?_
    refine s_end (hK14 _ _ ?_)
    refine wp_if hF rfl ?_
    refine wp_region_lit ?_
    refine s_val hF (x_move rfl) (by decide) fun a hF => ?_
    refine s_val hF (x_fa0 fa27_1 rfl) (by decide) fun a hF => ?_
    refine s_val hF (x_load rfl (m_load flat3 (m4.cell (j := 1) rfl))) (by decide) fun a hF => ?_
    refine s_val hF (x_fa0 fa97_2 rfl) (by decide) fun a hF => ?_
    refine s_val hF (x_load rfl (m_load flat3 (m3.cell (j := 2) rfl))) (by decide) fun a hF => ?_
    refine s_val hF (x_add (by omega) (by omega) rfl rfl) (by decide) fun a hF => ?_
    refine s_val hF (x_imax rfl rfl) (by decide) fun a hF => ?_
    refine s_val hF (x_fa0 fa27_1 rfl) (by decide) fun a hF => ?_
    refine s_put hF rfl rfl flat3 m4 (by first | (simp; done) | (simp [tc, lc]; done) | decide) rfl fun w22 m4 o23 => ?_
    have so23 := o23.size
    have hB := hB.trans (o23.below (by omega))
    have m3 := m3.only o23 (by omega)
    have m6 := m6.only o23 (by omega)
    refine s_end (hK2 _ _ ?_)
    refine wp_rs fun K15 hK15 => ?_
    refine s_val hF (x_ldW wide27 m4 rfl rfl) (by decide) fun a hF => ?_
    refine s_putW hF rfl rfl (size_wide wide27) m6 rfl (by simp [Value.oneCell']) fun w26 m6 o27 => ?_
    have so27 := o27.size
    have hB := hB.trans (o27.below (by omega))
    have m3 := m3.only o27 (by omega)
    have m4 := m4.only o27 (by omega)
    refine s_end (hK15 _ _ ?_)
    refine wp_ret (res_cell hF rfl rfl m6 wide27 ⟨by rw [hr]; try rfl, hB⟩)
  · have hr : liftN f b d n = max d (n + b) := by unfold liftN; first | (rw [if_pos (by omega)]; omega) | (rw [if_neg (by omega)])
    refine wp_rs fun K16 hK16 => ?_
    refine s_val hF (x_fa0 fa27_0 rfl) (by decide) fun a hF => ?_
    refine s_val hF (x_load rfl (m_load flat3 (m4.cell (j := 0) rfl))) (by decide) fun a hF => ?_
    refine s_val hF (x_eql (b := true) (decide_eq_true (by omega)) rfl rfl) (by decide) fun a hF => ?_
    refine s_val hF (x_move rfl) (by decide) fun a hF => ?_
    refine s_grd 42 hF rfl rfl rfl ?_
    refine s_val hF (x_fa0 fa27_1 rfl) (by decide) fun a hF => ?_
    refine s_grd 42 hF rfl rfl rfl ?_
    refine s_val hF (x_load rfl (m_load flat3 (m4.cell (j := 1) rfl))) (by decide) fun a hF => ?_
    refine s_grd 42 hF rfl rfl rfl ?_
    refine s_val hF (x_geq (b := true) (decide_eq_true (by omega)) rfl rfl) (by decide) fun a hF => ?_
    refine s_val hF (x_pick (b := true) rfl rfl) (by decide) fun a hF => ?_
    refine s_val hF (x_move rfl) (by decide) fun a hF => ?_
    refine s_grd 47 hF rfl rfl rfl ?_
    refine s_val hF (x_fa0 fa27_1 rfl) (by decide) fun a hF => ?_
    refine s_grd 47 hF rfl rfl rfl ?_
    refine s_val hF (x_load rfl (m_load flat3 (m4.cell (j := 1) rfl))) (by decide) fun a hF => ?_
    refine s_grd 47 hF rfl rfl rfl ?_
    refine s_val hF (x_move rfl) (by decide) fun a hF => ?_
    refine s_grd 47 hF rfl rfl rfl ?_
    refine s_val hF (x_sub (by omega) (by omega) rfl rfl) (by decide) fun a hF => ?_
    refine s_grd 47 hF rfl rfl rfl ?_
    refine s_val hF (x_fa0 fa97_1 rfl) (by decide) fun a hF => ?_
    refine s_grd 47 hF rfl rfl rfl ?_
    refine s_val hF (x_load rfl (m_load flat3 (m3.cell (j := 1) rfl))) (by decide) fun a hF => ?_
    refine s_grd 47 hF rfl rfl rfl ?_
    refine s_val hF (x_geq (b := true) (decide_eq_true (by omega)) rfl rfl) (by decide) fun a hF => ?_
    refine s_val hF (x_pick (b := true) rfl rfl) (by decide) fun a hF => ?_
    refine s_end (hK16 _ _ ?_)
    refine wp_if hF rfl ?_
    refine wp_rs fun K17 hK17 => ?_
    refine s_val hF (x_fa0 fa97_2 rfl) (by decide) fun a hF => ?_
    refine s_val hF (x_load rfl (m_load flat3 (m3.cell (j := 2) rfl))) (by decide) fun a hF => ?_
    refine s_val hF (x_gtr (b := false) (decide_eq_false (by omega)) rfl rfl) (by decide) fun a hF => ?_
    refine s_val hF (x_move rfl) (by decide) fun a hF => ?_
    refine s_grdn 59 hF rfl rfl (by decide) fun a hF => ?_
    refine s_grdn 59 hF rfl rfl (by decide) fun a hF => ?_
    refine s_grdn 59 hF rfl rfl (by decide) fun a hF => ?_
    refine s_grdn 59 hF rfl rfl (by decide) fun a hF => ?_
    refine s_grdn 59 hF rfl rfl (by decide) fun a hF => ?_
    refine s_grdn 59 hF rfl rfl (by decide) fun a hF => ?_
    refine s_val hF (x_pick (b := false) rfl rfl) (by decide) fun a hF => ?_
    refine s_end (hK17 _ _ ?_)
    refine wp_if hF rfl ?_
    refine wp_region_lit ?_
    refine s_val hF (x_move rfl) (by decide) fun a hF => ?_
    refine s_val hF (x_fa0 fa27_1 rfl) (by decide) fun a hF => ?_
    refine s_val hF (x_load rfl (m_load flat3 (m4.cell (j := 1) rfl))) (by decide) fun a hF => ?_
    refine s_val hF (x_fa0 fa97_2 rfl) (by decide) fun a hF => ?_
    refine s_val hF (x_load rfl (m_load flat3 (m3.cell (j := 2) rfl))) (by decide) fun a hF => ?_
    refine s_val hF (x_add (by omega) (by omega) rfl rfl) (by decide) fun a hF => ?_
    refine s_val hF (x_imax rfl rfl) (by decide) fun a hF => ?_
    refine s_val hF (x_fa0 fa27_1 rfl) (by decide) fun a hF => ?_
    refine s_put hF rfl rfl flat3 m4 (by first | (simp; done) | (simp [tc, lc]; done) | decide) rfl fun w28 m4 o29 => ?_
    have so29 := o29.size
    have hB := hB.trans (o29.below (by omega))
    have m3 := m3.only o29 (by omega)
    have m6 := m6.only o29 (by omega)
    refine s_end (hK2 _ _ ?_)
    refine wp_rs fun K18 hK18 => ?_
    refine s_val hF (x_ldW wide27 m4 rfl rfl) (by decide) fun a hF => ?_
    refine s_putW hF rfl rfl (size_wide wide27) m6 rfl (by simp [Value.oneCell']) fun w32 m6 o33 => ?_
    have so33 := o33.size
    have hB := hB.trans (o33.below (by omega))
    have m3 := m3.only o33 (by omega)
    have m4 := m4.only o33 (by omega)
    refine s_end (hK18 _ _ ?_)
    refine wp_ret (res_cell hF rfl rfl m6 wide27 ⟨by rw [hr]; try rfl, hB⟩)

set_option maxRecDepth 100000 in
set_option maxHeartbeats 1600000 in
theorem leafO123 (dO f b : Int) (hdO : dO = 0 ∨ dO = 1) (z : C8) (vl : Value) (h1z : ∀ u ∈ chv dO f b z vl, u.oneCell' = true) (k d : Int) (hk : k ≠ 1) (w0 : World) : Calls Try.prog 104 #[.agg (chv dO f b z vl).toArray, tv ⟨k, 0, emptyB, (0, 0, nilS), nilS, nilS⟩, .int .i64 d] w0 fun e w' => e = .returned (tv ⟨k, 0, emptyB, (0, 0, nilS), nilS, nilS⟩) ∧ Below w0.heap.size w0 w' := by
  have hB := Below.refl w0.heap.size w0
  have sB := hB.size
  refine calls_fs 101 [(0, .agg (chv dO f b z vl).toArray), (1, tv ⟨k, 0, emptyB, (0, 0, nilS), nilS, nilS⟩), (2, .int .i64 d)] Try.func104 rfl rfl rfl rfl rfl fun a hF => ?_
  refine wp_rs fun K1 hK1 => ?_
  refine s_box ([.int .i64 dO, .int .i64 f, .int .i64 b, .int .i64 z.k, .int .i64 z.n, .string z.s, .int .i64 z.l.1, .int .i64 z.l.2.1, z.l.2.2, z.ls, z.ts, vl]) hF (by decide) rfl rfl fun w2 b3 a eb3 m3 B3 zb3 hF => ?_
  have sB3 := B3.size
  have hB := hB.trans (B3.mono hB.size)
  refine s_box ([.int .i64 k, .int .i64 0, .string emptyB, .int .i64 0, .int .i64 0, nilS, nilS, nilS]) hF (by decide) rfl rfl fun w4 b4 a eb4 m4 B5 zb4 hF => ?_
  have sB5 := B5.size
  have hB := hB.trans (B5.mono hB.size)
  have m3 := m3.old B5
  refine s_alloc hF (by decide) zero27 fun w6 b6 a eb6 m6 B7 zb6 hF => ?_
  have sB7 := B7.size
  have hB := hB.trans (B7.mono hB.size)
  have m3 := m3.old B7
  have m4 := m4.old B7
  refine s_end (hK1 _ _ ?_)
  refine wp_seq_k fun K2 hK2 => ?_
  rcases hdO with rfl | rfl
  · skip
    refine wp_rs fun K4 hK4 => ?_
    refine s_val hF (x_fa0 fa97_0 rfl) (by decide) fun a hF => ?_
    refine s_val hF (x_load rfl (m_load flat3 (m3.cell (j := 0) rfl))) (by decide) fun a hF => ?_
    refine s_end (hK4 _ _ ?_)
    refine wp_block ?_
    refine wp_rs fun K5 hK5 => ?_
    refine s_val hF (x_eql (b := true) (decide_eq_true (by omega)) rfl rfl) (by decide) fun a hF => ?_
    refine s_val hF (x_assign rfl) (by decide) fun a hF => ?_
    refine s_end (hK5 _ _ ?_)
    refine wp_if hF rfl ?_
    refine wp_rs fun K6 hK6 => ?_
    refine s_val hF (x_fa0 fa27_0 rfl) (by decide) fun a hF => ?_
    refine s_val hF (x_load rfl (m_load flat3 (m4.cell (j := 0) rfl))) (by decide) fun a hF => ?_
    refine s_val hF (x_eql (b := false) (decide_eq_false (by omega)) rfl rfl) (by decide) fun a hF => ?_
    refine s_val hF (x_move rfl) (by decide) fun a hF => ?_
    refine s_grdn 42 hF rfl rfl (by decide) fun a hF => ?_
    refine s_grdn 42 hF rfl rfl (by decide) fun a hF => ?_
    refine s_grdn 42 hF rfl rfl (by decide) fun a hF => ?_
    refine s_val hF (x_pick (b := false) rfl rfl) (by decide) fun a hF => ?_
    refine s_val hF (x_move rfl) (by decide) fun a hF => ?_
    refine s_grdn 47 hF rfl rfl (by decide) fun a hF => ?_
    refine s_grdn 47 hF rfl rfl (by decide) fun a hF => ?_
    refine s_grdn 47 hF rfl rfl (by decide) fun a hF => ?_
    refine s_grdn 47 hF rfl rfl (by decide) fun a hF => ?_
    refine s_grdn 47 hF rfl rfl (by decide) fun a hF => ?_
    refine s_grdn 47 hF rfl rfl (by decide) fun a hF => ?_
    refine s_grdn 47 hF rfl rfl (by decide) fun a hF => ?_
    refine s_val hF (x_pick (b := false) rfl rfl) (by decide) fun a hF => ?_
    refine s_end (hK6 _ _ ?_)
    refine wp_if hF rfl ?_
    refine wp_skip (hK2 _ _ ?_)
    refine wp_rs fun K7 hK7 => ?_
    refine s_val hF (x_ldW wide27 m4 rfl rfl) (by decide) fun a hF => ?_
    refine s_putW hF rfl rfl (size_wide wide27) m6 rfl (one_tc0 _ _ _ _ rfl) fun w10 m6 o11 => ?_
    have so11 := o11.size
    have hB := hB.trans (o11.below (by omega))
    have m3 := m3.only o11 (by omega)
    have m4 := m4.only o11 (by omega)
    refine s_end (hK7 _ _ ?_)
    refine wp_ret (res_cell hF rfl rfl m6 wide27 ⟨rfl, hB⟩)
  · skip
    refine wp_rs fun K8 hK8 => ?_
    refine s_val hF (x_fa0 fa97_0 rfl) (by decide) fun a hF => ?_
    refine s_val hF (x_load rfl (m_load flat3 (m3.cell (j := 0) rfl))) (by decide) fun a hF => ?_
    refine s_end (hK8 _ _ ?_)
    refine wp_block ?_
    refine wp_rs fun K9 hK9 => ?_
    refine s_val hF (x_eql (b := false) (decide_eq_false (by omega)) rfl rfl) (by decide) fun a hF => ?_
    refine s_val hF (x_assign rfl) (by decide) fun a hF => ?_
    refine s_end (hK9 _ _ ?_)
    refine wp_if hF rfl ?_
    refine wp_rs fun K10 hK10 => ?_
    refine s_val hF (x_eql (b := true) (decide_eq_true (by omega)) rfl rfl) (by decide) fun a hF => ?_
    refine s_val hF (x_assign rfl) (by decide) fun a hF => ?_
    refine s_end (hK10 _ _ ?_)
    refine wp_if hF rfl ?_
    refine wp_seq_k fun K11 hK11 => ?_
    refine wp_rs fun K12 hK12 => ?_
    refine s_val hF (x_fa0 fa27_0 rfl) (by decide) fun a hF => ?_
    refine s_val hF (x_load rfl (m_load flat3 (m4.cell (j := 0) rfl))) (by decide) fun a hF => ?_
    refine s_val hF (x_neq (b := true) (decide_eq_true (by omega)) rfl rfl) (by decide) fun a hF => ?_
    refine s_val hF (x_move rfl) (by decide) fun a hF => ?_
    refine s_grdn 81 hF rfl rfl (by decide) fun a hF => ?_
    refine s_grdn 81 hF rfl rfl (by decide) fun a hF => ?_
    refine s_grdn 81 hF rfl rfl (by decide) fun a hF => ?_
    refine s_grdn 81 hF rfl rfl (by decide) fun a hF => ?_
    refine s_val hF (x_pick (b := true) rfl rfl) (by decide) fun a hF => ?_
    refine s_end (hK12 _ _ ?_)
    refine wp_if hF rfl ?_
    refine wp_rs fun K13 hK13 => ?_
    refine s_val hF (x_ldW wide27 m4 rfl rfl) (by decide) fun a hF => ?_
    refine s_putW hF rfl rfl (size_wide wide27) m6 rfl (one_tc0 _ _ _ _ rfl) fun w14 m6 o15 => ?_
    have so15 := o15.size
    have hB := hB.trans (o15.below (by omega))
    have m3 := m3.only o15 (by omega)
    have m4 := m4.only o15 (by omega)
    refine s_end (hK13 _ _ ?_)
    refine wp_ret (then_ret (inb_ret (then_ret (res_cell hF rfl rfl m6 wide27 ⟨rfl, hB⟩))))

set_option maxRecDepth 100000 in
set_option maxHeartbeats 1600000 in
theorem walk87 (wl : World) (A : Nat → Prop) (hA : ∀ k, A k → k < wl.heap.size) (dO f b : Int) (z : C8) (vl : Value) (h1z : ∀ u ∈ chv dO f b z vl, u.oneCell' = true) (GG : CT → Int → List PT → PT) (hG : ∀ (c : CT) (d : Int) (ps : List PT), c.kids ≠ [] → GG c d ps = nodeP c ps) (HL : ∀ (W : World) (c : CT) (x : C8) (d : Int), Below wl.heap.size wl W → RC wl A c x → c.kids = [] → c.ess.plain → 0 ≤ d → d ≤ 100000 → Calls Try.prog 104 #[.agg (chv dO f b z vl).toArray, tv (bareC c), .int .i64 d] W fun e w' => ∃ v, e = .returned v ∧ (∃ y, v = tv y ∧ RE w' (AS A W.heap.size) (GG c d []) y) ∧ Below W.heap.size W w') :
    ∀ (N : Nat) (c : CT) (x : C8) (d : Int) (W : World), c.size < N → RC wl A c x → c.ess.plain → 0 ≤ d → d + c.dep ≤ 100000 → Below wl.heap.size wl W →
      Calls Try.prog 68 #[.agg (chv dO f b z vl).toArray, tv x, .int .i64 d] W fun e w' => ∃ v, e = .returned v ∧ (∃ y, v = tv y ∧ RE w' (AS A W.heap.size) (c.fold GG d) y) ∧ Below W.heap.size W w' := by
  intro N
  induction N with
  | zero => intro c x d W h; omega
  | succ N ih =>
  intro c x d W hN hx hp hd0 hdD hW
  have hrg := arT_rng c.kd
  have hk9 := CT.kids_arT hx
  have h3 := c.kids_le
  have hdp := c.dep_pos
  have hx0 := hx
  have sW := hW.size
  obtain ⟨av, nv, cv, hts, hle9, hlen9, hcap, hkid⟩ := hx.kids
  obtain ⟨xk, xn, xs, xl, xls, xts⟩ := x
  simp only at hts
  subst hts
  have hkd : xk = c.kd := hx.kd
  have hone := hx.one
  have hB := Below.refl W.heap.size W
  have sB := hB.size
  refine calls_fs 53 [(0, .agg (chv dO f b z vl).toArray), (1, tv ⟨xk, xn, xs, xl, xls, .slice av nv cv⟩), (2, .int .i64 d)] Try.func68 rfl rfl rfl rfl rfl fun a hF => ?_
  refine wp_rs fun K1 hK1 => ?_
  refine s_box ([.int .i64 dO, .int .i64 f, .int .i64 b, .int .i64 z.k, .int .i64 z.n, .string z.s, .int .i64 z.l.1, .int .i64 z.l.2.1, z.l.2.2, z.ls, z.ts, vl]) hF (by decide) rfl rfl fun w2 b3 a eb3 m3 B3 zb3 hF => ?_
  have sB3 := B3.size
  have hB := hB.trans (B3.mono hB.size)
  refine s_box ([.int .i64 xk, .int .i64 xn, .string xs, .int .i64 xl.1, .int .i64 xl.2.1, xl.2.2, xls, .slice av nv cv]) hF (by decide) rfl rfl fun w4 b4 a eb4 m4 B5 zb4 hF => ?_
  have sB5 := B5.size
  have hB := hB.trans (B5.mono hB.size)
  have m3 := m3.old B5
  refine s_alloc hF (by decide) zero27 fun w6 b6 a eb6 m6 B7 zb6 hF => ?_
  have sB7 := B7.size
  have hB := hB.trans (B7.mono hB.size)
  have m3 := m3.old B7
  have m4 := m4.old B7
  refine s_end (hK1 _ _ ?_)
  refine wp_seq_k fun K2 hK2 => ?_
  rcases (show ((arT c.kd < 0 ∨ (c.len : Int) < arT c.kd) ∧ c.kids.length = 0) ∨ (¬ (arT c.kd < 0 ∨ (c.len : Int) < arT c.kd) ∧ arT c.kd = 0 ∧ c.kids.length = 0) ∨ (¬ (arT c.kd < 0 ∨ (c.len : Int) < arT c.kd) ∧ arT c.kd ≠ 0 ∧ (c.kids.length : Int) = arT c.kd) by omega) with hy | hy | hy
  · have hk0 : c.kids = [] := List.eq_nil_of_length_eq_zero (by omega)
    refine wp_rs fun K4 hK4 => ?_
    refine s_val hF (x_ldW wide27 m4 rfl rfl) (by decide) fun a hF => ?_
    refine s_callB [_] hF (enters_of Try.func59 (by kernel_rfl) rfl) rfl (by decide) ((leaf70 c ⟨xk, xn, xs, xl, xls, .slice av nv cv⟩ _ wl w6 hx0).mono fun e w' h => ⟨by rw [h.1, decide_eq_true hy.1], h.2⟩) fun w8 a B9 hF => ?_
    have sB9 := B9.size
    have hB := hB.trans (B9.mono hB.size)
    have m3 := m3.old B9
    have m4 := m4.old B9
    have m6 := m6.old B9
    refine s_val hF (x_move rfl) (by decide) fun a hF => ?_
    refine s_grdn 12 hF rfl rfl (by decide) fun a hF => ?_
    refine s_grdn 12 hF rfl rfl (by decide) fun a hF => ?_
    refine s_grdn 12 hF rfl rfl (by decide) fun a hF => ?_
    refine s_grdn 12 hF rfl rfl (by decide) fun a hF => ?_
    refine s_val hF (x_pick (b := true) rfl rfl) (by decide) fun a hF => ?_
    refine s_end (hK4 _ _ ?_)
    refine wp_if hF rfl ?_
    refine dk2_seq (b6) (b6) (ops := regOps Try.f68 2) (N := 6) (by kernel_rfl) wide_orders (by kernel_rfl) fun w10 hw10 B11 hS K5 hK5 => ?_
    have zw10 : w10.heap.size = w8.heap.size := by rw [hw10]
    have sB11 := B11.size
    have hB := hB.trans (B11.mono hB.size)
    have m3 := m3.old B11
    have m4 := m4.old B11
    have m6 := m6.old B11
    have m3_d := m3
    have m4_d := m4
    have m6_d := m6
    have hB_d := hB
    refine d_val 0 18 (op := (Go.Op.load 85 (Go.Operand.tmp 3))) hF hS (by kernel_rfl) (fun W hW => x_ldW wide97 (m3_d.k2 hW (by omega)) rfl rfl) (by kernel_rfl) (by decide) fun a hF => ?_
    refine d_val 1 19 (op := (Go.Op.load 27 (Go.Operand.tmp 4))) hF hS (by kernel_rfl) (fun W hW => x_ldW wide27 (m4_d.k2 hW (by omega)) rfl rfl) (by kernel_rfl) (by decide) fun a hF => ?_
    refine d_val 3 21 (op := (Go.Op.move (Go.Operand.tmp 2))) hF hS (by kernel_rfl) (fun W hW => x_move rfl) (by kernel_rfl) (by decide) fun a hF => ?_
    refine d_one 2 (some 20) (Go.Op.call (Go.Call.mk (Go.Callee.value (Go.Operand.func 105)) #[(Go.Operand.tmp 19)] #[27])) (by kernel_rfl) (by kernel_rfl) fun ty pos af => ?_
    refine s_callB [_] hF (enters_of Try.func105 (by kernel_rfl) rfl) rfl (by decide) (bare124 c ⟨xk, xn, xs, xl, xls, .slice av nv cv⟩ _ wl w10 hx0 hp) fun w12 a B13 hF => ?_
    have sB13 := B13.size
    have hB := hB.trans (B13.mono hB.size)
    have m3 := m3.old B13
    have m4 := m4.old B13
    have m6 := m6.old B13
    have hS := hS.below B13
    refine s_end ⟨hS, ?_⟩
    refine d_one 4 (some 22) (Go.Op.call (Go.Call.mk (Go.Callee.value (Go.Operand.func 104)) #[(Go.Operand.tmp 18), (Go.Operand.tmp 20), (Go.Operand.tmp 21)] #[85, 27, 3])) (by kernel_rfl) (by kernel_rfl) fun ty pos af => ?_
    refine s_callR (R := fun v w' => ∃ y, v = tv y ∧ RE w' (AS A w12.heap.size) (GG c d []) y) [_, _, _] hF (enters_of Try.func104 (by kernel_rfl) rfl) rfl (by decide) (HL w12 c ⟨xk, xn, xs, xl, xls, .slice av nv cv⟩ d (hW.trans (hB.mono sW)) hx0 hk0 hp hd0 (by omega)) ?_
    rintro _ w14 a ⟨y22, rfl, hy22⟩ B15 hF
    have sB15 := B15.size
    have hB := hB.trans (B15.mono hB.size)
    have m3 := m3.old B15
    have m4 := m4.old B15
    have m6 := m6.old B15
    have hS := hS.below B15
    refine s_end ⟨hS, ?_⟩
    refine d_one 5 none (Go.Op.store 27 (Go.Operand.tmp 6) (Go.Operand.tmp 22)) (by kernel_rfl) (by kernel_rfl) fun ty pos af => ?_
    refine s_putW hF rfl rfl (size_wide wide27) m6 rfl hy22.one fun w18 m6 o19 => ?_
    have so19 := o19.size
    have hB := hB.trans (o19.below (by omega))
    have m3 := m3.only o19 (by omega)
    have m4 := m4.only o19 (by omega)
    have hS := hS.only o19 (by omega)
    have hy22 := hy22.only o19 (by intro h; rcases h with h | h; (have := hA _ h; omega); omega)
    refine s_end ⟨hS, ?_⟩
    refine d_end (by kernel_rfl) (hK5 _ _ ?_)
    refine wp_ret (then_ret (res_cell hF rfl rfl m6 wide27 ⟨_, rfl, ⟨y22, rfl, by rw [CT.fold_eq, show c.folds GG d = [] from List.eq_nil_of_length_eq_zero (by rw [CT.folds_len]; omega)]; exact hy22.mono (AS.mono (by omega))⟩, hB⟩))
  · have hk0 : c.kids = [] := List.eq_nil_of_length_eq_zero (by omega)
    refine wp_rs fun K6 hK6 => ?_
    refine s_val hF (x_ldW wide27 m4 rfl rfl) (by decide) fun a hF => ?_
    refine s_callB [_] hF (enters_of Try.func59 (by kernel_rfl) rfl) rfl (by decide) ((leaf70 c ⟨xk, xn, xs, xl, xls, .slice av nv cv⟩ _ wl w6 hx0).mono fun e w' h => ⟨by rw [h.1, decide_eq_false hy.1], h.2⟩) fun w20 a B21 hF => ?_
    have sB21 := B21.size
    have hB := hB.trans (B21.mono hB.size)
    have m3 := m3.old B21
    have m4 := m4.old B21
    have m6 := m6.old B21
    refine s_val hF (x_move rfl) (by decide) fun a hF => ?_
    refine s_grd 12 hF rfl rfl rfl ?_
    refine s_val hF (x_fa0 fa27_0 rfl) (by decide) fun a hF => ?_
    refine s_grd 12 hF rfl rfl rfl ?_
    refine s_val hF (x_load rfl (m_load flat3 (m4.cell (j := 0) rfl))) (by decide) fun a hF => ?_
    refine s_grd 12 hF rfl rfl rfl ?_
    refine s_callS [_] hF (enters_of Try.func87 (by kernel_rfl) rfl) rfl (by decide) ((kids54 xk w20).mono fun e w' h => ⟨(by rw [h.1, hkd] : e = .returned (.int .i64 (arT c.kd))), h.2⟩) fun a hF => ?_
    refine s_grd 12 hF rfl rfl rfl ?_
    refine s_val hF (x_eql (b := true) (decide_eq_true (by omega)) rfl rfl) (by decide) fun a hF => ?_
    refine s_val hF (x_pick (b := false) rfl rfl) (by decide) fun a hF => ?_
    refine s_end (hK6 _ _ ?_)
    refine wp_if hF rfl ?_
    refine dk2_seq (b6) (b6) (ops := regOps Try.f68 2) (N := 6) (by kernel_rfl) wide_orders (by kernel_rfl) fun w22 hw22 B23 hS K7 hK7 => ?_
    have zw22 : w22.heap.size = w20.heap.size := by rw [hw22]
    have sB23 := B23.size
    have hB := hB.trans (B23.mono hB.size)
    have m3 := m3.old B23
    have m4 := m4.old B23
    have m6 := m6.old B23
    have m3_d := m3
    have m4_d := m4
    have m6_d := m6
    have hB_d := hB
    refine d_val 0 18 (op := (Go.Op.load 85 (Go.Operand.tmp 3))) hF hS (by kernel_rfl) (fun W hW => x_ldW wide97 (m3_d.k2 hW (by omega)) rfl rfl) (by kernel_rfl) (by decide) fun a hF => ?_
    refine d_val 1 19 (op := (Go.Op.load 27 (Go.Operand.tmp 4))) hF hS (by kernel_rfl) (fun W hW => x_ldW wide27 (m4_d.k2 hW (by omega)) rfl rfl) (by kernel_rfl) (by decide) fun a hF => ?_
    refine d_val 3 21 (op := (Go.Op.move (Go.Operand.tmp 2))) hF hS (by kernel_rfl) (fun W hW => x_move rfl) (by kernel_rfl) (by decide) fun a hF => ?_
    refine d_one 2 (some 20) (Go.Op.call (Go.Call.mk (Go.Callee.value (Go.Operand.func 105)) #[(Go.Operand.tmp 19)] #[27])) (by kernel_rfl) (by kernel_rfl) fun ty pos af => ?_
    refine s_callB [_] hF (enters_of Try.func105 (by kernel_rfl) rfl) rfl (by decide) (bare124 c ⟨xk, xn, xs, xl, xls, .slice av nv cv⟩ _ wl w22 hx0 hp) fun w24 a B25 hF => ?_
    have sB25 := B25.size
    have hB := hB.trans (B25.mono hB.size)
    have m3 := m3.old B25
    have m4 := m4.old B25
    have m6 := m6.old B25
    have hS := hS.below B25
    refine s_end ⟨hS, ?_⟩
    refine d_one 4 (some 22) (Go.Op.call (Go.Call.mk (Go.Callee.value (Go.Operand.func 104)) #[(Go.Operand.tmp 18), (Go.Operand.tmp 20), (Go.Operand.tmp 21)] #[85, 27, 3])) (by kernel_rfl) (by kernel_rfl) fun ty pos af => ?_
    refine s_callR (R := fun v w' => ∃ y, v = tv y ∧ RE w' (AS A w24.heap.size) (GG c d []) y) [_, _, _] hF (enters_of Try.func104 (by kernel_rfl) rfl) rfl (by decide) (HL w24 c ⟨xk, xn, xs, xl, xls, .slice av nv cv⟩ d (hW.trans (hB.mono sW)) hx0 hk0 hp hd0 (by omega)) ?_
    rintro _ w26 a ⟨y22, rfl, hy22⟩ B27 hF
    have sB27 := B27.size
    have hB := hB.trans (B27.mono hB.size)
    have m3 := m3.old B27
    have m4 := m4.old B27
    have m6 := m6.old B27
    have hS := hS.below B27
    refine s_end ⟨hS, ?_⟩
    refine d_one 5 none (Go.Op.store 27 (Go.Operand.tmp 6) (Go.Operand.tmp 22)) (by kernel_rfl) (by kernel_rfl) fun ty pos af => ?_
    refine s_putW hF rfl rfl (size_wide wide27) m6 rfl hy22.one fun w30 m6 o31 => ?_
    have so31 := o31.size
    have hB := hB.trans (o31.below (by omega))
    have m3 := m3.only o31 (by omega)
    have m4 := m4.only o31 (by omega)
    have hS := hS.only o31 (by omega)
    have hy22 := hy22.only o31 (by intro h; rcases h with h | h; (have := hA _ h; omega); omega)
    refine s_end ⟨hS, ?_⟩
    refine d_end (by kernel_rfl) (hK7 _ _ ?_)
    refine wp_ret (then_ret (res_cell hF rfl rfl m6 wide27 ⟨_, rfl, ⟨y22, rfl, by rw [CT.fold_eq, show c.folds GG d = [] from List.eq_nil_of_length_eq_zero (by rw [CT.folds_len]; omega)]; exact hy22.mono (AS.mono (by omega))⟩, hB⟩))
  · have hkx : xk ≠ 1 := fun h => by rw [← hkd, h] at hy; exact hy.2.1 rfl
    have hbr := bare_rest hx0 hkx
    refine wp_rs fun K8 hK8 => ?_
    refine s_val hF (x_ldW wide27 m4 rfl rfl) (by decide) fun a hF => ?_
    refine s_callB [_] hF (enters_of Try.func59 (by kernel_rfl) rfl) rfl (by decide) ((leaf70 c ⟨xk, xn, xs, xl, xls, .slice av nv cv⟩ _ wl w6 hx0).mono fun e w' h => ⟨by rw [h.1, decide_eq_false hy.1], h.2⟩) fun w32 a B33 hF => ?_
    have sB33 := B33.size
    have hB := hB.trans (B33.mono hB.size)
    have m3 := m3.old B33
    have m4 := m4.old B33
    have m6 := m6.old B33
    refine s_val hF (x_move rfl) (by decide) fun a hF => ?_
    refine s_grd 12 hF rfl rfl rfl ?_
    refine s_val hF (x_fa0 fa27_0 rfl) (by decide) fun a hF => ?_
    refine s_grd 12 hF rfl rfl rfl ?_
    refine s_val hF (x_load rfl (m_load flat3 (m4.cell (j := 0) rfl))) (by decide) fun a hF => ?_
    refine s_grd 12 hF rfl rfl rfl ?_
    refine s_callS [_] hF (enters_of Try.func87 (by kernel_rfl) rfl) rfl (by decide) ((kids54 xk w32).mono fun e w' h => ⟨(by rw [h.1, hkd] : e = .returned (.int .i64 (arT c.kd))), h.2⟩) fun a hF => ?_
    refine s_grd 12 hF rfl rfl rfl ?_
    refine s_val hF (x_eql (b := false) (decide_eq_false (by omega)) rfl rfl) (by decide) fun a hF => ?_
    refine s_val hF (x_pick (b := false) rfl rfl) (by decide) fun a hF => ?_
    refine s_end (hK8 _ _ ?_)
    refine wp_if hF rfl ?_
    refine wp_skip (hK2 _ _ ?_)
    refine wp_rs fun K9 hK9 => ?_
    refine s_val hF (x_ldW wide27 m4 rfl rfl) (by decide) fun a hF => ?_
    refine s_callB [_] hF (enters_of Try.func105 (by kernel_rfl) rfl) rfl (by decide) ((bare124 c ⟨xk, xn, xs, xl, xls, .slice av nv cv⟩ _ wl w32 hx0 hp).mono fun e w' h => ⟨by rw [h.1, hbr], h.2⟩) fun w34 a B35 hF => ?_
    have sB35 := B35.size
    have hB := hB.trans (B35.mono hB.size)
    have m3 := m3.old B35
    have m4 := m4.old B35
    have m6 := m6.old B35
    refine s_alloc hF (by decide) zero27 fun w36 b7 a eb7 m7 B37 zb7 hF => ?_
    have sB37 := B37.size
    have hB := hB.trans (B37.mono hB.size)
    have m3 := m3.old B37
    have m4 := m4.old B37
    have m6 := m6.old B37
    refine s_putW hF rfl rfl (size_wide wide27) m7 rfl (one_tc0 _ _ _ _ rfl) fun w40 m7 o41 => ?_
    have so41 := o41.size
    have hB := hB.trans (o41.below (by omega))
    have m3 := m3.only o41 (by omega)
    have m4 := m4.only o41 (by omega)
    have m6 := m6.only o41 (by omega)
    refine s_end (hK9 _ _ ?_)
    refine wp_seq_k fun K10 hK10 => ?_
    refine dk2_seq (b7) (b7) (ops := regOps Try.f68 4) (N := 8) (by kernel_rfl) wide_orders (by kernel_rfl) fun w42 hw42 B43 hS K11 hK11 => ?_
    have zw42 : w42.heap.size = w40.heap.size := by rw [hw42]
    have sB43 := B43.size
    have hB := hB.trans (B43.mono hB.size)
    have m3 := m3.old B43
    have m4 := m4.old B43
    have m6 := m6.old B43
    have m7 := m7.old B43
    have m3_d := m3
    have m4_d := m4
    have m6_d := m6
    have m7_d := m7
    have hB_d := hB
    refine d_val 0 25 (op := (Go.Op.fieldAddr 27 (Go.Operand.tmp 4) 5)) hF hS (by kernel_rfl) (fun W hW => x_fa0 fa27_5 rfl) (by kernel_rfl) (by decide) fun a hF => ?_
    refine d_val 1 26 (op := (Go.Op.load 25 (Go.Operand.tmp 25))) hF hS (by kernel_rfl) (fun W hW => x_load rfl (m_load flat25 ((m4_d.k2 hW (by omega)).cell (j := 7) rfl))) (by kernel_rfl) (by decide) fun a hF => ?_
    refine d_val 2 27 (op := (Go.Op.fieldAddr 27 (Go.Operand.tmp 4) 0)) hF hS (by kernel_rfl) (fun W hW => x_fa0 fa27_0 rfl) (by kernel_rfl) (by decide) fun a hF => ?_
    refine d_val 3 28 (op := (Go.Op.load 3 (Go.Operand.tmp 27))) hF hS (by kernel_rfl) (fun W hW => x_load rfl (m_load flat3 ((m4_d.k2 hW (by omega)).cell (j := 0) rfl))) (by kernel_rfl) (by decide) fun a hF => ?_
    refine d_val 7 32 (op := (Go.Op.move (Go.Operand.const (Go.Value.int Go.IntKind.i64 0)))) hF hS (by kernel_rfl) (fun W hW => x_move rfl) (by kernel_rfl) (by decide) fun a hF => ?_
    refine d_one 4 (some 29) (Go.Op.call (Go.Call.mk (Go.Callee.value (Go.Operand.func 87)) #[(Go.Operand.tmp 28)] #[3])) (by kernel_rfl) (by kernel_rfl) fun ty pos af => ?_
    refine s_callS [_] hF (enters_of Try.func87 (by kernel_rfl) rfl) rfl (by decide) ((kids54 xk w42).mono fun e w' h => ⟨(by rw [h.1, hkd, ← hy.2.2] : e = .returned (.int .i64 (c.kids.length : Int))), h.2⟩) fun a hF => ?_
    refine s_end ⟨hS, ?_⟩
    refine d_val 5 30 (op := (Go.Op.slice 25 (Go.Operand.tmp 26) none (some (Go.Operand.tmp 29)) none)) hF hS (by kernel_rfl) (fun W hW => x_slice (vlo := none) (vhi := some _) (vmx := none) rfl rfl rfl rfl (m_sliceUK c.kids.length Try.underlying25 el25.size (by omega) (by omega))) (by kernel_rfl) (by decide) fun a hF => ?_
    refine d_val 6 31 (op := (Go.Op.call (Go.Call.mk (Go.Callee.builtin Go.Builtin.len) #[(Go.Operand.tmp 30)] #[25]))) hF hS (by kernel_rfl) (fun W hW => x_len Try.underlying25 rfl) (by kernel_rfl) (by decide) fun a hF => ?_
    refine d_end (by kernel_rfl) (hK11 _ _ ?_)
    refine wp_block ?_
    refine wp_up c.kids.length (fun i a w => ∃ v' o' zs, w.ownsRow W.heap.size 27 8 v' zs.length (zs.flatMap tc) ∧ (∀ j, v'.ownBlock = some j → j = o') ∧ v'.ownBlock ≠ some b7 ∧ ((o' = b7 ∨ b7 < o') ∧ o' < w.heap.size) ∧ QT w (fun k => ((k < wl.heap.size ∧ A k) ∨ b7 < k) ∧ k ≠ o' ∧ k < w.heap.size) zs ((c.folds GG d).take i) ∧ Blk w b3 85 [.int .i64 dO, .int .i64 f, .int .i64 b, .int .i64 z.k, .int .i64 z.n, .string z.s, .int .i64 z.l.1, .int .i64 z.l.2.1, z.l.2.2, z.ls, z.ts, vl] ∧ Blk w b4 27 [.int .i64 xk, .int .i64 xn, .string xs, .int .i64 xl.1, .int .i64 xl.2.1, xl.2.2, xls, .slice av nv cv] ∧ Blk w b6 27 z8 ∧ Blk w b7 27 [.int .i64 xk, .int .i64 0, .string emptyB, .int .i64 0, .int .i64 0, nilS, nilS, v'] ∧ Below W.heap.size W w ∧ Fs 53 a [(2, .int .i64 d), (3, .pointer (some ⟨b3, 0, none⟩)), (4, .pointer (some ⟨b4, 0, none⟩)), (6, .pointer (some ⟨b6, 0, none⟩)), (7, .pointer (some ⟨b7, 0, none⟩)), (30, .slice av c.kids.length cv), (31, .int .i64 (c.kids.length : Int)), (32, .int .i64 (i : Int))]) ⟨nilS, b7, [], World.ownsRow_nil _ _ _ _, (fun j h => by cases h), (fun h => by cases h), by have := m7.lt; omega, by rw [List.take_zero]; exact QT.nil, m3, m4, m6, m7, hB, hF.sub _ rfl⟩ ?_
    have hb7 : W.heap.size ≤ b3 ∧ b3 < b4 ∧ b4 < b6 ∧ b6 < b7 := by omega
    repeat clear hF
    repeat clear m7
    repeat clear m6
    repeat clear m4
    repeat clear m3
    repeat clear hB
    rintro i a w hi ⟨vv, o2, zs, hO, hat, hne, hlo, hP, m3, m4, m6, m7, hB, hF⟩ K' hK'
    have sB := hB.size
    have hb7l := m7.lt
    obtain ⟨top, htop⟩ : ∃ h, h = w.heap.size := ⟨_, rfl⟩
    rw [← htop] at hP
    have hPl := hP.1
    rw [List.length_take, CT.folds_len] at hPl
    have h1vv := (Rd.own hO).one
    refine wp_rs fun K12 hK12 => ?_
    refine s_val hF (x_lss (b := decide (i < c.kids.length)) (decide_eq_decide.2 (by omega)) rfl rfl) (by decide) fun a hF => ?_
    refine s_end (hK12 _ _ ?_)
    refine wp_seq_k fun K13 hK13 => ?_
    refine wp_iff hF rfl (fun hc33 => ?_) (fun hc33 => ?_)
    · obtain ⟨b9, off9, c9, y, kd, hve, hyk, hry, hAb, hbl, hrow⟩ := hkid.row (i := i) (by omega)
      cases hve
      have hks := CT.kid_size hyk
      have hbi := c.bnd_is i
      have hkp := PT.plainK hp hyk
      have htk := take_snoc (CT.folds_get GG (d := d) hyk)
      refine wp_skip (hK13 _ _ ?_)
      refine wp_seq_k fun K14 hK14 => ?_
      refine wp_block ?_
      refine wp_rs fun K15 hK15 => ?_
      refine s_val hF (x_move rfl) (by decide) fun a hF => ?_
      refine s_val hF (x_ixa rfl rfl (m_ixsK i Try.underlying25 el25.size rfl (by omega))) (by decide) fun a hF => ?_
      refine s_val hF (x_ldA wide27 (hrow _ ((hW.trans (hB.mono sW)).block _ hbl)) rfl rfl) (by decide) fun a hF => ?_
      refine s_alloc hF (by decide) zero27 fun w44 b9 a eb9 m9 B45 zb9 hF => ?_
      have sB45 := B45.size
      have hB := hB.trans (B45.mono hB.size)
      have m3 := m3.old B45
      have m4 := m4.old B45
      have m6 := m6.old B45
      have m7 := m7.old B45
      have hO := own_below hO B45
      have hP := hP.below B45
      refine s_val hF (x_assign rfl) (by decide) fun a hF => ?_
      refine s_putW hF rfl rfl (size_wide wide27) m9 rfl hry.one fun w48 m9 o49 => ?_
      have so49 := o49.size
      have hB := hB.trans (o49.below (by omega))
      have m3 := m3.only o49 (by omega)
      have m4 := m4.only o49 (by omega)
      have m6 := m6.only o49 (by omega)
      have m7 := m7.only o49 (by omega)
      have hO := own_only hO o49 (fun e => by have := hat _ e; omega)
      have hP := hP.only o49 (fun k (hk : ((k < wl.heap.size ∧ A k) ∨ b7 < k) ∧ k ≠ o2 ∧ k < top) => by omega)
      refine s_end (hK15 _ _ ?_)
      refine dk2_one (o2) (b7) (ops := regOps Try.f68 7) (N := 15) (by kernel_rfl) wide_orders (by kernel_rfl) fun w50 hw50 B51 hS K16 hK16 => ?_
      have zw50 : w50.heap.size = w48.heap.size := by rw [hw50]
      have sB51 := B51.size
      have hB := hB.trans (B51.mono hB.size)
      have m3 := m3.old B51
      have m4 := m4.old B51
      have m6 := m6.old B51
      have m7 := m7.old B51
      have hO := own_below hO B51
      have hP := hP.below B51
      have m9 := m9.old B51
      have m3_d := m3
      have m4_d := m4
      have m6_d := m6
      have m7_d := m7
      have hO_d := hO
      have hP_d := hP
      have m9_d := m9
      have hB_d := hB
      refine d_val 0 37 (op := (Go.Op.fieldAddr 27 (Go.Operand.tmp 7) 5)) hF hS (by kernel_rfl) (fun W hW => x_fa0 fa27_5 rfl) (by kernel_rfl) (by decide) fun a hF => ?_
      refine d_val 2 39 (op := (Go.Op.load 85 (Go.Operand.tmp 3))) hF hS (by kernel_rfl) (fun W hW => x_ldW wide97 (m3_d.k2 hW (by omega)) rfl rfl) (by kernel_rfl) (by decide) fun a hF => ?_
      refine d_val 3 40 (op := (Go.Op.load 27 (Go.Operand.tmp 9))) hF hS (by kernel_rfl) (fun W hW => x_ldW wide27 (m9_d.k2 hW (by omega)) rfl rfl) (by kernel_rfl) (by decide) fun a hF => ?_
      refine d_val 4 41 (op := (Go.Op.move (Go.Operand.tmp 2))) hF hS (by kernel_rfl) (fun W hW => x_move rfl) (by kernel_rfl) (by decide) fun a hF => ?_
      refine d_val 5 42 (op := (Go.Op.fieldAddr 27 (Go.Operand.tmp 4) 0)) hF hS (by kernel_rfl) (fun W hW => x_fa0 fa27_0 rfl) (by kernel_rfl) (by decide) fun a hF => ?_
      refine d_val 6 43 (op := (Go.Op.load 3 (Go.Operand.tmp 42))) hF hS (by kernel_rfl) (fun W hW => x_load rfl (m_load flat3 ((m4_d.k2 hW (by omega)).cell (j := 0) rfl))) (by kernel_rfl) (by decide) fun a hF => ?_
      refine d_val 7 44 (op := (Go.Op.move (Go.Operand.tmp 8))) hF hS (by kernel_rfl) (fun W hW => x_move rfl) (by kernel_rfl) (by decide) fun a hF => ?_
      refine d_two 1 8 (by kernel_rfl) ?_ ?_
      · refine d_op 1 (some 38) (Go.Op.load 25 (Go.Operand.tmp 37)) (by kernel_rfl) fun ty pos af => ?_
        refine s_val hF (x_load rfl (m_load flat25 (m7.cell (j := 7) rfl))) (by decide) fun a hF => ?_
        refine s_end ⟨hS, ?_⟩
        refine d_one 8 (some 45) (Go.Op.call (Go.Call.mk (Go.Callee.value (Go.Operand.func 106)) #[(Go.Operand.tmp 43), (Go.Operand.tmp 44)] #[3, 3])) (by kernel_rfl) (by kernel_rfl) fun ty pos af => ?_
        refine s_callB [_, _] hF (enters_of Try.func106 (by kernel_rfl) rfl) rfl (by decide) (by have h := rbinds114 c _ _ i wl w50 hx0 (by omega); rw [← hkd] at h; exact h) fun w52 a B53 hF => ?_
        have sB53 := B53.size
        have hB := hB.trans (B53.mono hB.size)
        have m3 := m3.old B53
        have m4 := m4.old B53
        have m6 := m6.old B53
        have m7 := m7.old B53
        have hO := own_below hO B53
        have hP := hP.below B53
        have m9 := m9.old B53
        have hS := hS.below B53
        refine s_end ⟨hS, ?_⟩
        refine d_val 9 46 (op := (Go.Op.binOp Go.BinOp.add 3 (Go.Operand.tmp 41) (Go.Operand.tmp 45) 3)) hF hS (by kernel_rfl) (fun W hW => x_add (by omega) (by omega) rfl rfl) (by kernel_rfl) (by decide) fun a hF => ?_
        refine d_one 10 (some 47) (Go.Op.call (Go.Call.mk (Go.Callee.value (Go.Operand.func 68)) #[(Go.Operand.tmp 39), (Go.Operand.tmp 40), (Go.Operand.tmp 46)] #[85, 27, 3])) (by kernel_rfl) (by kernel_rfl) fun ty pos af => ?_
        refine s_callR (R := fun v w' => ∃ z, v = tv z ∧ REx w' (AS A w52.heap.size) (kd.fold GG (d + c.bnd i)) z) [_, _, _] hF (enters_of Try.func68 (by kernel_rfl) rfl) rfl (by decide) (ih kd y (d + c.bnd i) w52 (by omega) hry hkp (by omega) (by omega) (hW.trans (hB.mono sW))) ?_
        rintro _ w54 a ⟨zz, rfl, hz0⟩ B55 hF
        have sB55 := B55.size
        have hB := hB.trans (B55.mono hB.size)
        have m3 := m3.old B55
        have m4 := m4.old B55
        have m6 := m6.old B55
        have m7 := m7.old B55
        have hO := own_below hO B55
        have hP := hP.below B55
        have m9 := m9.old B55
        have hS := hS.below B55
        have hz := RE.valid hz0
        clear hz0
        have hz : REx w54 (fun k => ((k < wl.heap.size ∧ A k) ∨ w52.heap.size ≤ k) ∧ k < w54.heap.size) (kd.fold GG (d + c.bnd i)) zz := hz.mono (fun k hk => ⟨hk.1.elim (fun h => .inl ⟨hA k h, h⟩) .inr, hk.2⟩)
        have h1z9 := RE.one hz
        refine s_end ⟨hS, ?_⟩
        refine d_one 11 (some 48) (Go.Op.buildSlice 25 1 #[(0, (Go.Operand.tmp 47))]) (by kernel_rfl) (by kernel_rfl) fun ty pos af => ?_
        refine s_litG [tv zz] el25 hF (by decide) rfl (by simp [Value.cells, tc]) rfl (by decide) (by decide) fun w56 bl a ebl ml B57 zbl hF => ?_
        have sB57 := B57.size
        have hB := hB.trans (B57.mono hB.size)
        have m3 := m3.old B57
        have m4 := m4.old B57
        have m6 := m6.old B57
        have m7 := m7.old B57
        have hO := own_below hO B57
        have hP := hP.below B57
        have m9 := m9.old B57
        have hz := hz.below B57
        have hS := hS.below B57
        have ml : Blk w56 bl 27 (tc zz) := by simpa [Value.cells] using ml
        refine s_end ⟨hS, ?_⟩
        refine d_one 12 (some 49) (Go.Op.call (Go.Call.mk (Go.Callee.builtin Go.Builtin.append) #[(Go.Operand.tmp 38), (Go.Operand.tmp 48)] #[25, 25])) (by kernel_rfl) (by kernel_rfl) fun ty pos af => ?_
        refine s_appL (o := o2) el25 hF (by decide) rfl rfl hO ml rfl h1z9 hat (by omega) (by omega) (by decide) (by omega) fun v3 w58 a o3 hOn hOatn how hsrc k59 hkeep hF => ?_
        have sk59 := k59.size
        have hB := k59.under hB (by omega)
        have m3 := m3.k2 k59 (by omega)
        have m4 := m4.k2 k59 (by omega)
        have m6 := m6.k2 k59 (by omega)
        have m7 : Blk w58 b7 _ _ := (hkeep _ m7.lt hne).trans m7
        have hP := hP.k2 k59 (fun k (hk : ((k < wl.heap.size ∧ A k) ∨ b7 < k) ∧ k ≠ o2 ∧ k < top) => by omega)
        have m9 := m9.k2 k59 (by omega)
        have hz := hz.k2 k59 (fun k (hk : ((k < wl.heap.size ∧ A k) ∨ w52.heap.size ≤ k) ∧ k < w54.heap.size) => by omega)
        have ml := ml.k2 k59 (by omega)
        have hS := hS.trans k59 (by omega)
        have hO := hOn
        have hO_at := hOatn
        have hneg : v3.ownBlock ≠ some b7 := fun h => by rcases hsrc b7 h with h | h; exact hne h; omega
        have h1v3 := (Rd.own hO).one
        refine s_end ⟨hS, ?_⟩
        refine d_val 13 50 (op := (Go.Op.fieldAddr 27 (Go.Operand.tmp 7) 5)) hF hS (by kernel_rfl) (fun W hW => x_fa0 fa27_5 rfl) (by kernel_rfl) (by decide) fun a hF => ?_
        refine d_one 14 none (Go.Op.store 25 (Go.Operand.tmp 50) (Go.Operand.tmp 49)) (by kernel_rfl) (by kernel_rfl) fun ty pos af => ?_
        refine s_put hF rfl rfl flat25 m7 (by first | (simp; done) | (simp [tc, lc]; done) | decide) h1v3 fun w60 m7 o61 => ?_
        have so61 := o61.size
        have hB := hB.trans (o61.below (by omega))
        have m3 := m3.only o61 (by omega)
        have m4 := m4.only o61 (by omega)
        have m6 := m6.only o61 (by omega)
        have hO := own_only hO o61 (hneg)
        have hP := hP.only o61 (fun k (hk : ((k < wl.heap.size ∧ A k) ∨ b7 < k) ∧ k ≠ o2 ∧ k < top) => by omega)
        have m9 := m9.only o61 (by omega)
        have hz := hz.only o61 (fun k (hk : ((k < wl.heap.size ∧ A k) ∨ w52.heap.size ≤ k) ∧ k < w54.heap.size) => by omega)
        have ml := ml.only o61 (by omega)
        have hS := hS.only o61 (by omega)
        refine s_end ⟨hS, ?_⟩
        refine d_end (by kernel_rfl) (hK16 _ _ ?_)
        refine hK14 _ _ ?_
        refine wp_region_lit ?_
        refine s_val hF (x_addn (i + 1) (by omega) (by omega) rfl rfl) (by decide) fun a hF => ?_
        refine s_val hF (x_move rfl) (by decide) fun a hF => ?_
        refine s_end (hK' _ _ (by omega) ⟨v3, o3, zs ++ [zz], by rw [fm8_app]; simpa using hO, hO_at, hneg, by omega, by rw [htk]; exact (hP.mono (fun k (hk : ((k < wl.heap.size ∧ A k) ∨ b7 < k) ∧ k ≠ o2 ∧ k < top) => ⟨hk.1, by omega, by omega⟩)).snoc (RE.mono (fun k (hk : ((k < wl.heap.size ∧ A k) ∨ w52.heap.size ≤ k) ∧ k < w54.heap.size) => ⟨hk.1.elim .inl (fun h => .inr (by omega)), by omega, by omega⟩) hz), m3, m4, m6, m7, hB, hF.sub _ rfl⟩)
      · refine d_op 8 (some 45) (Go.Op.call (Go.Call.mk (Go.Callee.value (Go.Operand.func 106)) #[(Go.Operand.tmp 43), (Go.Operand.tmp 44)] #[3, 3])) (by kernel_rfl) fun ty pos af => ?_
        refine s_callB [_, _] hF (enters_of Try.func106 (by kernel_rfl) rfl) rfl (by decide) (by have h := rbinds114 c _ _ i wl w50 hx0 (by omega); rw [← hkd] at h; exact h) fun w62 a B63 hF => ?_
        have sB63 := B63.size
        have hB := hB.trans (B63.mono hB.size)
        have m3 := m3.old B63
        have m4 := m4.old B63
        have m6 := m6.old B63
        have m7 := m7.old B63
        have hO := own_below hO B63
        have hP := hP.below B63
        have m9 := m9.old B63
        have hS := hS.below B63
        refine s_end ⟨hS, ?_⟩
        refine d_val 9 46 (op := (Go.Op.binOp Go.BinOp.add 3 (Go.Operand.tmp 41) (Go.Operand.tmp 45) 3)) hF hS (by kernel_rfl) (fun W hW => x_add (by omega) (by omega) rfl rfl) (by kernel_rfl) (by decide) fun a hF => ?_
        refine d_two 1 10 (by kernel_rfl) ?_ ?_
        · refine d_op 1 (some 38) (Go.Op.load 25 (Go.Operand.tmp 37)) (by kernel_rfl) fun ty pos af => ?_
          refine s_val hF (x_load rfl (m_load flat25 (m7.cell (j := 7) rfl))) (by decide) fun a hF => ?_
          refine s_end ⟨hS, ?_⟩
          refine d_one 10 (some 47) (Go.Op.call (Go.Call.mk (Go.Callee.value (Go.Operand.func 68)) #[(Go.Operand.tmp 39), (Go.Operand.tmp 40), (Go.Operand.tmp 46)] #[85, 27, 3])) (by kernel_rfl) (by kernel_rfl) fun ty pos af => ?_
          refine s_callR (R := fun v w' => ∃ z, v = tv z ∧ REx w' (AS A w62.heap.size) (kd.fold GG (d + c.bnd i)) z) [_, _, _] hF (enters_of Try.func68 (by kernel_rfl) rfl) rfl (by decide) (ih kd y (d + c.bnd i) w62 (by omega) hry hkp (by omega) (by omega) (hW.trans (hB.mono sW))) ?_
          rintro _ w64 a ⟨zz, rfl, hz0⟩ B65 hF
          have sB65 := B65.size
          have hB := hB.trans (B65.mono hB.size)
          have m3 := m3.old B65
          have m4 := m4.old B65
          have m6 := m6.old B65
          have m7 := m7.old B65
          have hO := own_below hO B65
          have hP := hP.below B65
          have m9 := m9.old B65
          have hS := hS.below B65
          have hz := RE.valid hz0
          clear hz0
          have hz : REx w64 (fun k => ((k < wl.heap.size ∧ A k) ∨ w62.heap.size ≤ k) ∧ k < w64.heap.size) (kd.fold GG (d + c.bnd i)) zz := hz.mono (fun k hk => ⟨hk.1.elim (fun h => .inl ⟨hA k h, h⟩) .inr, hk.2⟩)
          have h1z9 := RE.one hz
          refine s_end ⟨hS, ?_⟩
          refine d_one 11 (some 48) (Go.Op.buildSlice 25 1 #[(0, (Go.Operand.tmp 47))]) (by kernel_rfl) (by kernel_rfl) fun ty pos af => ?_
          refine s_litG [tv zz] el25 hF (by decide) rfl (by simp [Value.cells, tc]) rfl (by decide) (by decide) fun w66 bl a ebl ml B67 zbl hF => ?_
          have sB67 := B67.size
          have hB := hB.trans (B67.mono hB.size)
          have m3 := m3.old B67
          have m4 := m4.old B67
          have m6 := m6.old B67
          have m7 := m7.old B67
          have hO := own_below hO B67
          have hP := hP.below B67
          have m9 := m9.old B67
          have hz := hz.below B67
          have hS := hS.below B67
          have ml : Blk w66 bl 27 (tc zz) := by simpa [Value.cells] using ml
          refine s_end ⟨hS, ?_⟩
          refine d_one 12 (some 49) (Go.Op.call (Go.Call.mk (Go.Callee.builtin Go.Builtin.append) #[(Go.Operand.tmp 38), (Go.Operand.tmp 48)] #[25, 25])) (by kernel_rfl) (by kernel_rfl) fun ty pos af => ?_
          refine s_appL (o := o2) el25 hF (by decide) rfl rfl hO ml rfl h1z9 hat (by omega) (by omega) (by decide) (by omega) fun v3 w68 a o3 hOn hOatn how hsrc k69 hkeep hF => ?_
          have sk69 := k69.size
          have hB := k69.under hB (by omega)
          have m3 := m3.k2 k69 (by omega)
          have m4 := m4.k2 k69 (by omega)
          have m6 := m6.k2 k69 (by omega)
          have m7 : Blk w68 b7 _ _ := (hkeep _ m7.lt hne).trans m7
          have hP := hP.k2 k69 (fun k (hk : ((k < wl.heap.size ∧ A k) ∨ b7 < k) ∧ k ≠ o2 ∧ k < top) => by omega)
          have m9 := m9.k2 k69 (by omega)
          have hz := hz.k2 k69 (fun k (hk : ((k < wl.heap.size ∧ A k) ∨ w62.heap.size ≤ k) ∧ k < w64.heap.size) => by omega)
          have ml := ml.k2 k69 (by omega)
          have hS := hS.trans k69 (by omega)
          have hO := hOn
          have hO_at := hOatn
          have hneg : v3.ownBlock ≠ some b7 := fun h => by rcases hsrc b7 h with h | h; exact hne h; omega
          have h1v3 := (Rd.own hO).one
          refine s_end ⟨hS, ?_⟩
          refine d_val 13 50 (op := (Go.Op.fieldAddr 27 (Go.Operand.tmp 7) 5)) hF hS (by kernel_rfl) (fun W hW => x_fa0 fa27_5 rfl) (by kernel_rfl) (by decide) fun a hF => ?_
          refine d_one 14 none (Go.Op.store 25 (Go.Operand.tmp 50) (Go.Operand.tmp 49)) (by kernel_rfl) (by kernel_rfl) fun ty pos af => ?_
          refine s_put hF rfl rfl flat25 m7 (by first | (simp; done) | (simp [tc, lc]; done) | decide) h1v3 fun w70 m7 o71 => ?_
          have so71 := o71.size
          have hB := hB.trans (o71.below (by omega))
          have m3 := m3.only o71 (by omega)
          have m4 := m4.only o71 (by omega)
          have m6 := m6.only o71 (by omega)
          have hO := own_only hO o71 (hneg)
          have hP := hP.only o71 (fun k (hk : ((k < wl.heap.size ∧ A k) ∨ b7 < k) ∧ k ≠ o2 ∧ k < top) => by omega)
          have m9 := m9.only o71 (by omega)
          have hz := hz.only o71 (fun k (hk : ((k < wl.heap.size ∧ A k) ∨ w62.heap.size ≤ k) ∧ k < w64.heap.size) => by omega)
          have ml := ml.only o71 (by omega)
          have hS := hS.only o71 (by omega)
          refine s_end ⟨hS, ?_⟩
          refine d_end (by kernel_rfl) (hK16 _ _ ?_)
          refine hK14 _ _ ?_
          refine wp_region_lit ?_
          refine s_val hF (x_addn (i + 1) (by omega) (by omega) rfl rfl) (by decide) fun a hF => ?_
          refine s_val hF (x_move rfl) (by decide) fun a hF => ?_
          refine s_end (hK' _ _ (by omega) ⟨v3, o3, zs ++ [zz], by rw [fm8_app]; simpa using hO, hO_at, hneg, by omega, by rw [htk]; exact (hP.mono (fun k (hk : ((k < wl.heap.size ∧ A k) ∨ b7 < k) ∧ k ≠ o2 ∧ k < top) => ⟨hk.1, by omega, by omega⟩)).snoc (RE.mono (fun k (hk : ((k < wl.heap.size ∧ A k) ∨ w62.heap.size ≤ k) ∧ k < w64.heap.size) => ⟨hk.1.elim .inl (fun h => .inr (by omega)), by omega, by omega⟩) hz), m3, m4, m6, m7, hB, hF.sub _ rfl⟩)
        · refine d_op 10 (some 47) (Go.Op.call (Go.Call.mk (Go.Callee.value (Go.Operand.func 68)) #[(Go.Operand.tmp 39), (Go.Operand.tmp 40), (Go.Operand.tmp 46)] #[85, 27, 3])) (by kernel_rfl) fun ty pos af => ?_
          refine s_callR (R := fun v w' => ∃ z, v = tv z ∧ REx w' (AS A w62.heap.size) (kd.fold GG (d + c.bnd i)) z) [_, _, _] hF (enters_of Try.func68 (by kernel_rfl) rfl) rfl (by decide) (ih kd y (d + c.bnd i) w62 (by omega) hry hkp (by omega) (by omega) (hW.trans (hB.mono sW))) ?_
          rintro _ w72 a ⟨zz, rfl, hz0⟩ B73 hF
          have sB73 := B73.size
          have hB := hB.trans (B73.mono hB.size)
          have m3 := m3.old B73
          have m4 := m4.old B73
          have m6 := m6.old B73
          have m7 := m7.old B73
          have hO := own_below hO B73
          have hP := hP.below B73
          have m9 := m9.old B73
          have hS := hS.below B73
          have hz := RE.valid hz0
          clear hz0
          have hz : REx w72 (fun k => ((k < wl.heap.size ∧ A k) ∨ w62.heap.size ≤ k) ∧ k < w72.heap.size) (kd.fold GG (d + c.bnd i)) zz := hz.mono (fun k hk => ⟨hk.1.elim (fun h => .inl ⟨hA k h, h⟩) .inr, hk.2⟩)
          have h1z9 := RE.one hz
          refine s_end ⟨hS, ?_⟩
          refine d_two 1 11 (by kernel_rfl) ?_ ?_
          · refine d_op 1 (some 38) (Go.Op.load 25 (Go.Operand.tmp 37)) (by kernel_rfl) fun ty pos af => ?_
            refine s_val hF (x_load rfl (m_load flat25 (m7.cell (j := 7) rfl))) (by decide) fun a hF => ?_
            refine s_end ⟨hS, ?_⟩
            refine d_one 11 (some 48) (Go.Op.buildSlice 25 1 #[(0, (Go.Operand.tmp 47))]) (by kernel_rfl) (by kernel_rfl) fun ty pos af => ?_
            refine s_litG [tv zz] el25 hF (by decide) rfl (by simp [Value.cells, tc]) rfl (by decide) (by decide) fun w74 bl a ebl ml B75 zbl hF => ?_
            have sB75 := B75.size
            have hB := hB.trans (B75.mono hB.size)
            have m3 := m3.old B75
            have m4 := m4.old B75
            have m6 := m6.old B75
            have m7 := m7.old B75
            have hO := own_below hO B75
            have hP := hP.below B75
            have m9 := m9.old B75
            have hz := hz.below B75
            have hS := hS.below B75
            have ml : Blk w74 bl 27 (tc zz) := by simpa [Value.cells] using ml
            refine s_end ⟨hS, ?_⟩
            refine d_one 12 (some 49) (Go.Op.call (Go.Call.mk (Go.Callee.builtin Go.Builtin.append) #[(Go.Operand.tmp 38), (Go.Operand.tmp 48)] #[25, 25])) (by kernel_rfl) (by kernel_rfl) fun ty pos af => ?_
            refine s_appL (o := o2) el25 hF (by decide) rfl rfl hO ml rfl h1z9 hat (by omega) (by omega) (by decide) (by omega) fun v3 w76 a o3 hOn hOatn how hsrc k77 hkeep hF => ?_
            have sk77 := k77.size
            have hB := k77.under hB (by omega)
            have m3 := m3.k2 k77 (by omega)
            have m4 := m4.k2 k77 (by omega)
            have m6 := m6.k2 k77 (by omega)
            have m7 : Blk w76 b7 _ _ := (hkeep _ m7.lt hne).trans m7
            have hP := hP.k2 k77 (fun k (hk : ((k < wl.heap.size ∧ A k) ∨ b7 < k) ∧ k ≠ o2 ∧ k < top) => by omega)
            have m9 := m9.k2 k77 (by omega)
            have hz := hz.k2 k77 (fun k (hk : ((k < wl.heap.size ∧ A k) ∨ w62.heap.size ≤ k) ∧ k < w72.heap.size) => by omega)
            have ml := ml.k2 k77 (by omega)
            have hS := hS.trans k77 (by omega)
            have hO := hOn
            have hO_at := hOatn
            have hneg : v3.ownBlock ≠ some b7 := fun h => by rcases hsrc b7 h with h | h; exact hne h; omega
            have h1v3 := (Rd.own hO).one
            refine s_end ⟨hS, ?_⟩
            refine d_val 13 50 (op := (Go.Op.fieldAddr 27 (Go.Operand.tmp 7) 5)) hF hS (by kernel_rfl) (fun W hW => x_fa0 fa27_5 rfl) (by kernel_rfl) (by decide) fun a hF => ?_
            refine d_one 14 none (Go.Op.store 25 (Go.Operand.tmp 50) (Go.Operand.tmp 49)) (by kernel_rfl) (by kernel_rfl) fun ty pos af => ?_
            refine s_put hF rfl rfl flat25 m7 (by first | (simp; done) | (simp [tc, lc]; done) | decide) h1v3 fun w78 m7 o79 => ?_
            have so79 := o79.size
            have hB := hB.trans (o79.below (by omega))
            have m3 := m3.only o79 (by omega)
            have m4 := m4.only o79 (by omega)
            have m6 := m6.only o79 (by omega)
            have hO := own_only hO o79 (hneg)
            have hP := hP.only o79 (fun k (hk : ((k < wl.heap.size ∧ A k) ∨ b7 < k) ∧ k ≠ o2 ∧ k < top) => by omega)
            have m9 := m9.only o79 (by omega)
            have hz := hz.only o79 (fun k (hk : ((k < wl.heap.size ∧ A k) ∨ w62.heap.size ≤ k) ∧ k < w72.heap.size) => by omega)
            have ml := ml.only o79 (by omega)
            have hS := hS.only o79 (by omega)
            refine s_end ⟨hS, ?_⟩
            refine d_end (by kernel_rfl) (hK16 _ _ ?_)
            refine hK14 _ _ ?_
            refine wp_region_lit ?_
            refine s_val hF (x_addn (i + 1) (by omega) (by omega) rfl rfl) (by decide) fun a hF => ?_
            refine s_val hF (x_move rfl) (by decide) fun a hF => ?_
            refine s_end (hK' _ _ (by omega) ⟨v3, o3, zs ++ [zz], by rw [fm8_app]; simpa using hO, hO_at, hneg, by omega, by rw [htk]; exact (hP.mono (fun k (hk : ((k < wl.heap.size ∧ A k) ∨ b7 < k) ∧ k ≠ o2 ∧ k < top) => ⟨hk.1, by omega, by omega⟩)).snoc (RE.mono (fun k (hk : ((k < wl.heap.size ∧ A k) ∨ w62.heap.size ≤ k) ∧ k < w72.heap.size) => ⟨hk.1.elim .inl (fun h => .inr (by omega)), by omega, by omega⟩) hz), m3, m4, m6, m7, hB, hF.sub _ rfl⟩)
          · refine d_op 11 (some 48) (Go.Op.buildSlice 25 1 #[(0, (Go.Operand.tmp 47))]) (by kernel_rfl) fun ty pos af => ?_
            refine s_litG [tv zz] el25 hF (by decide) rfl (by simp [Value.cells, tc]) rfl (by decide) (by decide) fun w80 bl a ebl ml B81 zbl hF => ?_
            have sB81 := B81.size
            have hB := hB.trans (B81.mono hB.size)
            have m3 := m3.old B81
            have m4 := m4.old B81
            have m6 := m6.old B81
            have m7 := m7.old B81
            have hO := own_below hO B81
            have hP := hP.below B81
            have m9 := m9.old B81
            have hz := hz.below B81
            have hS := hS.below B81
            have ml : Blk w80 bl 27 (tc zz) := by simpa [Value.cells] using ml
            refine s_end ⟨hS, ?_⟩
            refine d_one 1 (some 38) (Go.Op.load 25 (Go.Operand.tmp 37)) (by kernel_rfl) (by kernel_rfl) fun ty pos af => ?_
            refine s_val hF (x_load rfl (m_load flat25 (m7.cell (j := 7) rfl))) (by decide) fun a hF => ?_
            refine s_end ⟨hS, ?_⟩
            refine d_one 12 (some 49) (Go.Op.call (Go.Call.mk (Go.Callee.builtin Go.Builtin.append) #[(Go.Operand.tmp 38), (Go.Operand.tmp 48)] #[25, 25])) (by kernel_rfl) (by kernel_rfl) fun ty pos af => ?_
            refine s_appL (o := o2) el25 hF (by decide) rfl rfl hO ml rfl h1z9 hat (by omega) (by omega) (by decide) (by omega) fun v3 w82 a o3 hOn hOatn how hsrc k83 hkeep hF => ?_
            have sk83 := k83.size
            have hB := k83.under hB (by omega)
            have m3 := m3.k2 k83 (by omega)
            have m4 := m4.k2 k83 (by omega)
            have m6 := m6.k2 k83 (by omega)
            have m7 : Blk w82 b7 _ _ := (hkeep _ m7.lt hne).trans m7
            have hP := hP.k2 k83 (fun k (hk : ((k < wl.heap.size ∧ A k) ∨ b7 < k) ∧ k ≠ o2 ∧ k < top) => by omega)
            have m9 := m9.k2 k83 (by omega)
            have hz := hz.k2 k83 (fun k (hk : ((k < wl.heap.size ∧ A k) ∨ w62.heap.size ≤ k) ∧ k < w72.heap.size) => by omega)
            have ml := ml.k2 k83 (by omega)
            have hS := hS.trans k83 (by omega)
            have hO := hOn
            have hO_at := hOatn
            have hneg : v3.ownBlock ≠ some b7 := fun h => by rcases hsrc b7 h with h | h; exact hne h; omega
            have h1v3 := (Rd.own hO).one
            refine s_end ⟨hS, ?_⟩
            refine d_val 13 50 (op := (Go.Op.fieldAddr 27 (Go.Operand.tmp 7) 5)) hF hS (by kernel_rfl) (fun W hW => x_fa0 fa27_5 rfl) (by kernel_rfl) (by decide) fun a hF => ?_
            refine d_one 14 none (Go.Op.store 25 (Go.Operand.tmp 50) (Go.Operand.tmp 49)) (by kernel_rfl) (by kernel_rfl) fun ty pos af => ?_
            refine s_put hF rfl rfl flat25 m7 (by first | (simp; done) | (simp [tc, lc]; done) | decide) h1v3 fun w84 m7 o85 => ?_
            have so85 := o85.size
            have hB := hB.trans (o85.below (by omega))
            have m3 := m3.only o85 (by omega)
            have m4 := m4.only o85 (by omega)
            have m6 := m6.only o85 (by omega)
            have hO := own_only hO o85 (hneg)
            have hP := hP.only o85 (fun k (hk : ((k < wl.heap.size ∧ A k) ∨ b7 < k) ∧ k ≠ o2 ∧ k < top) => by omega)
            have m9 := m9.only o85 (by omega)
            have hz := hz.only o85 (fun k (hk : ((k < wl.heap.size ∧ A k) ∨ w62.heap.size ≤ k) ∧ k < w72.heap.size) => by omega)
            have ml := ml.only o85 (by omega)
            have hS := hS.only o85 (by omega)
            refine s_end ⟨hS, ?_⟩
            refine d_end (by kernel_rfl) (hK16 _ _ ?_)
            refine hK14 _ _ ?_
            refine wp_region_lit ?_
            refine s_val hF (x_addn (i + 1) (by omega) (by omega) rfl rfl) (by decide) fun a hF => ?_
            refine s_val hF (x_move rfl) (by decide) fun a hF => ?_
            refine s_end (hK' _ _ (by omega) ⟨v3, o3, zs ++ [zz], by rw [fm8_app]; simpa using hO, hO_at, hneg, by omega, by rw [htk]; exact (hP.mono (fun k (hk : ((k < wl.heap.size ∧ A k) ∨ b7 < k) ∧ k ≠ o2 ∧ k < top) => ⟨hk.1, by omega, by omega⟩)).snoc (RE.mono (fun k (hk : ((k < wl.heap.size ∧ A k) ∨ w62.heap.size ≤ k) ∧ k < w72.heap.size) => ⟨hk.1.elim .inl (fun h => .inr (by omega)), by omega, by omega⟩) hz), m3, m4, m6, m7, hB, hF.sub _ rfl⟩)
    · obtain rfl : i = c.kids.length := by omega
      rw [List.take_of_length_le (by rw [CT.folds_len]; exact Nat.le_refl _)] at hP
      refine wp_exit (hK10 _ _ ?_)
      have hkn : c.kids ≠ [] := fun h => by rw [h] at hy; simp at hy; omega
      refine wp_rs fun K17 hK17 => ?_
      refine s_val hF (x_ldW wide27 m7 rfl rfl) (by decide) fun a hF => ?_
      refine s_putW hF rfl rfl (size_wide wide27) m6 rfl (one_tc0 _ _ _ _ h1vv) fun w88 m6 o89 => ?_
      have so89 := o89.size
      have hB := hB.trans (o89.below (by omega))
      have m3 := m3.only o89 (by omega)
      have m4 := m4.only o89 (by omega)
      have m7 := m7.only o89 (by omega)
      have hO := own_only hO o89 (fun e => by have := hat _ e; omega)
      have hP := hP.only o89 (fun k (hk : ((k < wl.heap.size ∧ A k) ∨ b7 < k) ∧ k ≠ o2 ∧ k < top) => by omega)
      refine s_end (hK17 _ _ ?_)
      have hke : RKE w88 (AS A W.heap.size) vv (c.folds GG d) := (hP.mono (fun k hk => hk.1.elim (fun h => .inl h.2) (fun h => .inr (by omega)))).rke (Rd.own hO) (fun j h => .inr (hO.lt j h).1)
      have hfin : RE w88 (AS A W.heap.size) (c.fold GG d) ⟨xk, 0, emptyB, (0, 0, nilS), nilS, vv⟩ := by rw [CT.fold_eq, hG c d _ hkn]; exact RE_rest hx0 ⟨hkx, plain_kd hp hx0 hy.1⟩ hke (CT.folds_len GG c d)
      refine wp_ret (res_cell hF rfl rfl m6 wide27 ⟨_, rfl, ⟨⟨xk, 0, emptyB, (0, 0, nilS), nilS, vv⟩, rfl, hfin⟩, hB⟩)
end Go.Proofs.Ytaclncmkdpjnlaa

namespace Go.Proofs.Ytaclncmkdpjnlaa
open Go.RowKit Go.Shelf
set_option linter.unusedVariables false
set_option linter.unusedSimpArgs false

def Z0 : C8 := ⟨0, 0, emptyB, (0, 0, nilS), nilS, nilS⟩
theorem b97_012 (f b : Int) (w : World) : (Instr.build 85 [(0, Value.int .i64 0), (1, Value.int .i64 f), (2, Value.int .i64 b)].toArray).run Try.prog w = .ok (.agg (chv 0 f b Z0 nilS).toArray) w := run_build w 85 _ _ (by kernel_rfl)
theorem b97_03 (k n : Int) (s : ByteArray) (p q : Int) (a : Option Addr) (m c : Nat) (a2 : Option Addr) (m2 c2 : Nat) (a3 : Option Addr) (m3 c3 : Nat) (w : World) : (Instr.build 85 [(0, Value.int .i64 1), (3, tv ⟨k, n, s, (p, q, .slice a m c), .slice a2 m2 c2, .slice a3 m3 c3⟩)].toArray).run Try.prog w = .ok (.agg (chv 1 0 0 ⟨k, n, s, (p, q, .slice a m c), .slice a2 m2 c2, .slice a3 m3 c3⟩ nilS).toArray) w := run_build w 85 _ _ (by kernel_rfl)
theorem chv_one (dO f b : Int) (z : C8) (h : ∀ u ∈ tc z, u.oneCell' = true) : ∀ u ∈ chv dO f b z nilS, u.oneCell' = true := by
  intro u hu
  simp only [chv, List.mem_cons, List.not_mem_nil, or_false] at hu
  rcases hu with rfl | rfl | rfl | h' | h' | h' | h' | h' | h' | h' | h' | rfl
  · rfl
  · rfl
  · rfl
  all_goals first | rfl | (exact h u (by rw [h']; simp [tc]))
theorem Gl_kids (f b : Int) (c : CT) (d : Int) (ps : List PT) (h : c.kids ≠ []) : Gl f b c d ps = nodeP c ps := by cases c <;> first | rfl | (simp [CT.kids] at h)
theorem Gp_kids (v : PT) (c : CT) (d : Int) (ps : List PT) (h : c.kids ≠ []) : Gp v c d ps = nodeP c ps := by cases c <;> first | rfl | (simp [CT.kids] at h)
theorem odd_ne {W : World} {A : Nat → Prop} {k : Int} {m : Nat} {x : C8} (h : RC W A (.odd k m) x) : k ≠ 1 := fun e => by
  have := h.2.1
  rw [e, show arT 1 = 0 from rfl] at this
  omega
theorem liftN_in {f b d n : Int} (hn : in64 n) (hb : -1048576 ≤ b ∧ b ≤ 1048576) (hd : 0 ≤ d ∧ d ≤ 1000000) : in64 (liftN f b d n) := by
  unfold in64 at *
  unfold liftN
  split <;> omega
theorem hlL (f b : Int) (z : C8) (hf : 0 ≤ f) (hb : -1048576 ≤ b ∧ b ≤ 1048576) (h1z : ∀ u ∈ chv 0 f b z nilS, u.oneCell' = true) (wl : World) (A B : Nat → Prop) (W : World) (c : CT) (x : C8) (d : Int) (hx : RC wl A c x) (hk : c.kids = []) (hp : c.ess.plain) (hd0 : 0 ≤ d) (hd1 : d ≤ 100000) :
    Calls Try.prog 104 #[.agg (chv 0 f b z nilS).toArray, tv (bareC c), .int .i64 d] W fun e w' => ∃ v, e = .returned v ∧ (∃ y, v = tv y ∧ RE w' B (Gl f b c d []) y) ∧ Below W.heap.size W w' := by
  cases c with
  | var n m => exact (leafL123 f b z nilS hf hb h1z n d hx.2.2.1 ⟨hd0, by omega⟩ W).mono fun e w' ⟨h1, h2⟩ => ⟨_, h1, ⟨_, rfl, RE_var (liftN_in hx.2.2.1 hb ⟨hd0, by omega⟩) (RKE.nil _ _)⟩, h2⟩
  | odd k m => exact (leafO123 0 f b (.inl rfl) z nilS h1z k d (odd_ne hx) W).mono fun e w' ⟨h1, h2⟩ => ⟨_, h1, ⟨_, rfl, RE_odd (by have := hx.2.1; omega) (RKE.nil _ _)⟩, h2⟩
  | sort l m => exact hp.elim
  | cst s l m => exact hp.elim
  | two k p q m => simp [CT.kids] at hk
  | lt p q r m => simp [CT.kids] at hk

set_option maxRecDepth 100000 in
set_option maxHeartbeats 1600000 in
theorem rlift94 (wl : World) (A : Nat → Prop) (hA : ∀ k, A k → k < wl.heap.size) (c : CT) (x : C8) (f b : Int) (hf : 0 ≤ f) (hb : -1048576 ≤ b ∧ b ≤ 1048576) (W : World) (hW : Below wl.heap.size wl W) (hx : RC wl A c x) (hp : c.ess.plain) (hdp : c.dep ≤ 100000) : Calls Try.prog 75 #[tv x, .int .i64 f, .int .i64 b] W fun e w' => ∃ r, e = .returned r ∧ (∃ y, r = tv y ∧ RE w' (AS A W.heap.size) (c.ess.lift f b 0) y) ∧ Below W.heap.size W w' := by
  have hz1 := chv_one 0 f b Z0 (by unfold Z0; exact one_tc0 _ _ _ _ rfl)
  have hB := Below.refl W.heap.size W
  have sB := hB.size
  have sW := hW.size
  refine calls_fs 12 [(0, tv x), (1, .int .i64 f), (2, .int .i64 b)] Try.func75 rfl rfl rfl rfl rfl fun a hF => ?_
  refine wp_rs fun K1 hK1 => ?_
  refine s_box (tc x) hF (by decide) rfl rfl fun w2 b3 a eb3 m3 B3 zb3 hF => ?_
  have sB3 := B3.size
  have hB := hB.trans (B3.mono hB.size)
  refine s_alloc hF (by decide) zero27 fun w4 b6 a eb6 m6 B5 zb6 hF => ?_
  have sB5 := B5.size
  have hB := hB.trans (B5.mono hB.size)
  have m3 := m3.old B5
  refine s_end (hK1 _ _ ?_)
  refine wp_rs fun K2 hK2 => ?_
  refine s_val hF (x_move rfl) (by decide) fun a hF => ?_
  refine s_val hF (x_move rfl) (by decide) fun a hF => ?_
  refine s_val hF (x_build (vs := [(0, _), (1, _), (2, _)]) rfl (b97_012 _ _ _)) (by decide) fun a hF => ?_
  refine s_val hF (x_ldW wide27 m3 rfl rfl) (by decide) fun a hF => ?_
  refine s_callR (R := fun r w' => ∃ y, r = tv y ∧ RE w' (AS A w4.heap.size) (c.fold (Gl f b) 0) y) [_, _, _] hF (enters_of Try.func68 (by kernel_rfl) rfl) rfl (by decide) (walk87 wl A hA 0 f b Z0 nilS (hz1) (Gl f b) (Gl_kids f b) (fun W' c x d h1 h2 h3 h4 h5 h6 => hlL f b Z0 hf hb hz1 wl A _ W' c x d h2 h3 h4 h5 h6) (c.size + 1) c x 0 w4 (by omega) hx hp (by decide) (by omega) (hW.trans (hB.mono sW))) ?_
  rintro _ w6 a ⟨y9, rfl, hy9⟩ B7 hF
  have sB7 := B7.size
  have hB := hB.trans (B7.mono hB.size)
  have m3 := m3.old B7
  have m6 := m6.old B7
  rw [fold_lift] at hy9
  refine s_putW hF rfl rfl (size_wide wide27) m6 rfl hy9.one fun w10 m6 o11 => ?_
  have so11 := o11.size
  have hB := hB.trans (o11.below (by omega))
  have m3 := m3.only o11 (by omega)
  have hy9 := hy9.only o11 (by intro h; rcases h with h | h; (have := hA _ h; omega); omega)
  refine s_end (hK2 _ _ ?_)
  refine wp_ret (res_cell hF rfl rfl m6 wide27 ⟨_, rfl, ⟨y9, rfl, hy9.mono (AS.mono (by omega))⟩, hB⟩)

set_option maxRecDepth 100000 in
set_option maxHeartbeats 1600000 in
theorem rLift49 (c : CT) (x : C8) (f b : Int) (w0 : World) (hx : RC w0 (fun k => k < w0.heap.size) c x) (hp : c.ess.plain) : Calls Try.prog 37 #[tv x, .int .i64 f, .int .i64 b] w0 fun e w' => ∃ u, e = .returned u ∧ (∃ y, u = tv y ∧ RT w' (c.ess.Lift f b) y) ∧ Below w0.heap.size w0 w' := by
  have hcb : max (-1048576) (min b 1048576) = cut20 b := by unfold cut20; omega
  have hcr : -1048576 ≤ cut20 b ∧ cut20 b ≤ 1048576 := by unfold cut20; omega
  have hmf : max 0 f = max f 0 := by omega
  have hB := Below.refl w0.heap.size w0
  have sB := hB.size
  refine calls_fs 17 [(0, tv x), (1, .int .i64 f), (2, .int .i64 b)] Try.func37 rfl rfl rfl rfl rfl fun a hF => ?_
  refine wp_rs fun K1 hK1 => ?_
  refine s_box (tc x) hF (by decide) rfl rfl fun w2 b3 a eb3 m3 B3 zb3 hF => ?_
  have sB3 := B3.size
  have hB := hB.trans (B3.mono hB.size)
  refine s_alloc hF (by decide) zero27 fun w4 b6 a eb6 m6 B5 zb6 hF => ?_
  have sB5 := B5.size
  have hB := hB.trans (B5.mono hB.size)
  have m3 := m3.old B5
  refine s_end (hK1 _ _ ?_)
  refine wp_seq_k fun K2 hK2 => ?_
  rcases (show ¬ c.ok ∨ c.ok by by_cases h : c.ok <;> simp [h]) with hk1 | hk1
  · skip
    refine wp_rs fun K4 hK4 => ?_
    refine s_val hF (x_ldW wide27 m3 rfl rfl) (by decide) fun a hF => ?_
    refine s_callB [_] hF (enters_of Try.func10 (by kernel_rfl) rfl) rfl (by decide) ((TooGreat14 c x w4 (hx.bel hB)).mono fun e w' h => ⟨by rw [h.1, decide_eq_true (p := ¬ c.ok) hk1], h.2⟩) fun w6 a B7 hF => ?_
    have sB7 := B7.size
    have hB := hB.trans (B7.mono hB.size)
    have m3 := m3.old B7
    have m6 := m6.old B7
    refine s_end (hK4 _ _ ?_)
    refine wp_if hF rfl ?_
    refine wp_rs fun K5 hK5 => ?_
    refine s_val hF (x_build (vs := []) rfl (b27_ _)) (by decide) fun a hF => ?_
    refine s_putW hF rfl rfl (size_wide wide27) m6 rfl one8 fun w10 m6 o11 => ?_
    have so11 := o11.size
    have hB := hB.trans (o11.below (by omega))
    have m3 := m3.only o11 (by omega)
    refine s_end (hK5 _ _ ?_)
    refine wp_ret (then_ret (res_cell hF rfl rfl m6 wide27 ⟨_, rfl, ⟨⟨0, 0, emptyB, (0, 0, nilS), nilS, nilS⟩, rfl, by rw [show c.ess.Lift f b = .odd 0 from if_neg (fun h => hk1 (c.ok_ess.1 h))]; exact (RE_bare _ (fun _ => True)).rt⟩, hB⟩))
  · skip
    refine wp_rs fun K6 hK6 => ?_
    refine s_val hF (x_ldW wide27 m3 rfl rfl) (by decide) fun a hF => ?_
    refine s_callB [_] hF (enters_of Try.func10 (by kernel_rfl) rfl) rfl (by decide) ((TooGreat14 c x w4 (hx.bel hB)).mono fun e w' h => ⟨by rw [h.1, decide_eq_false (p := ¬ c.ok) (fun h => h hk1)], h.2⟩) fun w12 a B13 hF => ?_
    have sB13 := B13.size
    have hB := hB.trans (B13.mono hB.size)
    have m3 := m3.old B13
    have m6 := m6.old B13
    refine s_end (hK6 _ _ ?_)
    refine wp_if hF rfl ?_
    refine wp_skip (hK2 _ _ ?_)
    refine wp_rs fun K7 hK7 => ?_
    refine s_val hF (x_ldW wide27 m3 rfl rfl) (by decide) fun a hF => ?_
    refine s_val hF (x_move rfl) (by decide) fun a hF => ?_
    refine s_val hF (x_imax rfl rfl) (by decide) fun a hF => ?_
    refine s_val hF (x_move rfl) (by decide) fun a hF => ?_
    refine s_val hF (x_imin rfl rfl) (by decide) fun a hF => ?_
    refine s_val hF (x_imax rfl rfl) (by decide) fun a hF => ?_
    rw [hmf, hcb] at hF
    refine s_callR (R := fun v w' => ∃ y, v = tv y ∧ RE w' (AS (fun k => k < w0.heap.size) w12.heap.size) (c.ess.lift (max f 0) (cut20 b) 0) y) [_, _, _] hF (enters_of Try.func75 (by kernel_rfl) rfl) rfl (by decide) (rlift94 w0 _ (fun _ h => h) c x (max f 0) (cut20 b) (by omega) hcr w12 hB hx hp (by have := hk1.2; omega)) ?_
    rintro _ w14 a ⟨y9, rfl, hy9⟩ B15 hF
    have sB15 := B15.size
    have hB := hB.trans (B15.mono hB.size)
    have m3 := m3.old B15
    have m6 := m6.old B15
    refine s_putW hF rfl rfl (size_wide wide27) m6 rfl hy9.one fun w18 m6 o19 => ?_
    have so19 := o19.size
    have hB := hB.trans (o19.below (by omega))
    have m3 := m3.only o19 (by omega)
    have hy9 := hy9.only o19 (by intro h; rcases h with h | h <;> omega)
    refine s_end (hK7 _ _ ?_)
    refine wp_ret (res_cell hF rfl rfl m6 wide27 ⟨_, rfl, ⟨y9, rfl, by rw [show c.ess.Lift f b = c.ess.lift (max f 0) (cut20 b) 0 from if_pos (c.ok_ess.2 hk1)]; exact hy9.rt⟩, hB⟩)

set_option maxRecDepth 100000 in
set_option maxHeartbeats 1600000 in
theorem leafP123 (wl : World) (A : Nat → Prop) (hA : ∀ k, A k → k < wl.heap.size) (cv : CT) (xv : C8) (hv : RC wl A cv xv) (hpv : cv.ess.plain) (hvd : cv.dep ≤ 100000) (n d : Int) (hn : in64 n) (hd : 0 ≤ d ∧ d ≤ 100000) (W : World) (hW : Below wl.heap.size wl W) : Calls Try.prog 104 #[.agg (chv 1 0 0 xv nilS).toArray, tv ⟨1, n, emptyB, (0, 0, nilS), nilS, nilS⟩, .int .i64 d] W fun e w' => ∃ r, e = .returned r ∧ (∃ y, r = tv y ∧ RE w' (AS A W.heap.size) (if n = d then cv.ess.lift 0 d 0 else .var (if d < n then n - 1 else n)) y) ∧ Below W.heap.size W w' := by
  have hnn := hn
  unfold in64 at hn
  have hz1 := chv_one 1 0 0 xv hv.one
  have hB := Below.refl W.heap.size W
  have sB := hB.size
  have sW := hW.size
  refine calls_fs 101 [(0, .agg (chv 1 0 0 xv nilS).toArray), (1, tv ⟨1, n, emptyB, (0, 0, nilS), nilS, nilS⟩), (2, .int .i64 d)] Try.func104 rfl rfl rfl rfl rfl fun a hF => ?_
  refine wp_rs fun K1 hK1 => ?_
  refine s_box ([.int .i64 1, .int .i64 0, .int .i64 0, .int .i64 xv.k, .int .i64 xv.n, .string xv.s, .int .i64 xv.l.1, .int .i64 xv.l.2.1, xv.l.2.2, xv.ls, xv.ts, nilS]) hF (by decide) rfl rfl fun w2 b3 a eb3 m3 B3 zb3 hF => ?_
  have sB3 := B3.size
  have hB := hB.trans (B3.mono hB.size)
  refine s_box ([.int .i64 1, .int .i64 n, .string emptyB, .int .i64 0, .int .i64 0, nilS, nilS, nilS]) hF (by decide) rfl rfl fun w4 b4 a eb4 m4 B5 zb4 hF => ?_
  have sB5 := B5.size
  have hB := hB.trans (B5.mono hB.size)
  have m3 := m3.old B5
  refine s_alloc hF (by decide) zero27 fun w6 b6 a eb6 m6 B7 zb6 hF => ?_
  have sB7 := B7.size
  have hB := hB.trans (B7.mono hB.size)
  have m3 := m3.old B7
  have m4 := m4.old B7
  refine s_end (hK1 _ _ ?_)
  refine wp_seq_k fun K2 hK2 => ?_
  refine wp_rs fun K3 hK3 => ?_
  refine s_val hF (x_fa0 fa97_0 rfl) (by decide) fun a hF => ?_
  refine s_val hF (x_load rfl (m_load flat3 (m3.cell (j := 0) rfl))) (by decide) fun a hF => ?_
  refine s_end (hK3 _ _ ?_)
  refine wp_block ?_
  refine wp_rs fun K4 hK4 => ?_
  refine s_val hF (x_eql (b := false) (decide_eq_false (by omega)) rfl rfl) (by decide) fun a hF => ?_
  refine s_val hF (x_assign rfl) (by decide) fun a hF => ?_
  refine s_end (hK4 _ _ ?_)
  refine wp_if hF rfl ?_
  refine wp_rs fun K5 hK5 => ?_
  refine s_val hF (x_eql (b := true) (decide_eq_true (by omega)) rfl rfl) (by decide) fun a hF => ?_
  refine s_val hF (x_assign rfl) (by decide) fun a hF => ?_
  refine s_end (hK5 _ _ ?_)
  refine wp_if hF rfl ?_
  refine wp_seq_k fun K6 hK6 => ?_
  rcases (show n < d ∨ n = d ∨ d < n by omega) with hz | hz | hz
  · skip
    refine wp_rs fun K8 hK8 => ?_
    refine s_val hF (x_fa0 fa27_0 rfl) (by decide) fun a hF => ?_
    refine s_val hF (x_load rfl (m_load flat3 (m4.cell (j := 0) rfl))) (by decide) fun a hF => ?_
    refine s_val hF (x_neq (b := false) (decide_eq_false (by omega)) rfl rfl) (by decide) fun a hF => ?_
    refine s_val hF (x_move rfl) (by decide) fun a hF => ?_
    refine s_grd 81 hF rfl rfl rfl ?_
    refine s_val hF (x_fa0 fa27_1 rfl) (by decide) fun a hF => ?_
    refine s_grd 81 hF rfl rfl rfl ?_
    refine s_val hF (x_load rfl (m_load flat3 (m4.cell (j := 1) rfl))) (by decide) fun a hF => ?_
    refine s_grd 81 hF rfl rfl rfl ?_
    refine s_val hF (x_move rfl) (by decide) fun a hF => ?_
    refine s_grd 81 hF rfl rfl rfl ?_
    refine s_val hF (x_lss (b := true) (decide_eq_true (by omega)) rfl rfl) (by decide) fun a hF => ?_
    refine s_val hF (x_pick (b := false) rfl rfl) (by decide) fun a hF => ?_
    refine s_end (hK8 _ _ ?_)
    refine wp_if hF rfl ?_
    refine wp_rs fun K9 hK9 => ?_
    refine s_val hF (x_ldW wide27 m4 rfl rfl) (by decide) fun a hF => ?_
    refine s_putW hF rfl rfl (size_wide wide27) m6 rfl (by simp [Value.oneCell']) fun w10 m6 o11 => ?_
    have so11 := o11.size
    have hB := hB.trans (o11.below (by omega))
    have m3 := m3.only o11 (by omega)
    have m4 := m4.only o11 (by omega)
    refine s_end (hK9 _ _ ?_)
    refine wp_ret (then_ret (inb_ret (then_ret (res_cell hF rfl rfl m6 wide27 ⟨_, rfl, ⟨⟨1, n, emptyB, (0, 0, nilS), nilS, nilS⟩, rfl, by rw [if_neg (by omega), if_neg (by omega)]; exact RE_var (by unfold in64; omega) (RKE.nil _ _)⟩, hB⟩))))
  · skip
    refine wp_rs fun K10 hK10 => ?_
    refine s_val hF (x_fa0 fa27_0 rfl) (by decide) fun a hF => ?_
    refine s_val hF (x_load rfl (m_load flat3 (m4.cell (j := 0) rfl))) (by decide) fun a hF => ?_
    refine s_val hF (x_neq (b := false) (decide_eq_false (by omega)) rfl rfl) (by decide) fun a hF => ?_
    refine s_val hF (x_move rfl) (by decide) fun a hF => ?_
    refine s_grd 81 hF rfl rfl rfl ?_
    refine s_val hF (x_fa0 fa27_1 rfl) (by decide) fun a hF => ?_
    refine s_grd 81 hF rfl rfl rfl ?_
    refine s_val hF (x_load rfl (m_load flat3 (m4.cell (j := 1) rfl))) (by decide) fun a hF => ?_
    refine s_grd 81 hF rfl rfl rfl ?_
    refine s_val hF (x_move rfl) (by decide) fun a hF => ?_
    refine s_grd 81 hF rfl rfl rfl ?_
    refine s_val hF (x_lss (b := false) (decide_eq_false (by omega)) rfl rfl) (by decide) fun a hF => ?_
    refine s_val hF (x_pick (b := false) rfl rfl) (by decide) fun a hF => ?_
    refine s_end (hK10 _ _ ?_)
    refine wp_if hF rfl ?_
    refine wp_skip (hK6 _ _ ?_)
    refine wp_seq_k fun K11 hK11 => ?_
    refine wp_rs fun K12 hK12 => ?_
    refine s_val hF (x_fa0 fa27_1 rfl) (by decide) fun a hF => ?_
    refine s_val hF (x_load rfl (m_load flat3 (m4.cell (j := 1) rfl))) (by decide) fun a hF => ?_
    refine s_val hF (x_move rfl) (by decide) fun a hF => ?_
    refine s_val hF (x_eql (b := true) (decide_eq_true (by omega)) rfl rfl) (by decide) fun a hF => ?_
    refine s_end (hK12 _ _ ?_)
    refine wp_if hF rfl ?_
    refine wp_rs fun K13 hK13 => ?_
    refine s_val hF (x_fa0 fa97_3 rfl) (by decide) fun a hF => ?_
    refine s_val hF (x_load rfl (m_loadP (vs := [_, _, _, _, _, _, _, _]) wide27 m3 rfl)) (by decide) fun a hF => ?_
    refine s_val hF (x_move rfl) (by decide) fun a hF => ?_
    refine s_callR (R := fun v w' => ∃ y, v = tv y ∧ RE w' (AS A w6.heap.size) (cv.ess.lift 0 d 0) y) [_, _, _] hF (enters_of Try.func75 (by kernel_rfl) rfl) rfl (by decide) (rlift94 wl A hA cv xv 0 d (by decide) (by omega) w6 (hW.trans (hB.mono sW)) hv hpv hvd) ?_
    rintro _ w12 a ⟨y9, rfl, hy9⟩ B13 hF
    have sB13 := B13.size
    have hB := hB.trans (B13.mono hB.size)
    have m3 := m3.old B13
    have m4 := m4.old B13
    have m6 := m6.old B13
    refine s_putW hF rfl rfl (size_wide wide27) m6 rfl hy9.one fun w16 m6 o17 => ?_
    have so17 := o17.size
    have hB := hB.trans (o17.below (by omega))
    have m3 := m3.only o17 (by omega)
    have m4 := m4.only o17 (by omega)
    have hy9 := hy9.only o17 (by intro h; rcases h with h | h; (have := hA _ h; omega); omega)
    refine s_end (hK13 _ _ ?_)
    refine wp_ret (then_ret (inb_ret (then_ret (res_cell hF rfl rfl m6 wide27 ⟨_, rfl, ⟨y9, rfl, by rw [if_pos hz]; exact hy9.mono (AS.mono (by omega))⟩, hB⟩))))
  · skip
    refine wp_rs fun K14 hK14 => ?_
    refine s_val hF (x_fa0 fa27_0 rfl) (by decide) fun a hF => ?_
    refine s_val hF (x_load rfl (m_load flat3 (m4.cell (j := 0) rfl))) (by decide) fun a hF => ?_
    refine s_val hF (x_neq (b := false) (decide_eq_false (by omega)) rfl rfl) (by decide) fun a hF => ?_
    refine s_val hF (x_move rfl) (by decide) fun a hF => ?_
    refine s_grd 81 hF rfl rfl rfl ?_
    refine s_val hF (x_fa0 fa27_1 rfl) (by decide) fun a hF => ?_
    refine s_grd 81 hF rfl rfl rfl ?_
    refine s_val hF (x_load rfl (m_load flat3 (m4.cell (j := 1) rfl))) (by decide) fun a hF => ?_
    refine s_grd 81 hF rfl rfl rfl ?_
    refine s_val hF (x_move rfl) (by decide) fun a hF => ?_
    refine s_grd 81 hF rfl rfl rfl ?_
    refine s_val hF (x_lss (b := false) (decide_eq_false (by omega)) rfl rfl) (by decide) fun a hF => ?_
    refine s_val hF (x_pick (b := false) rfl rfl) (by decide) fun a hF => ?_
    refine s_end (hK14 _ _ ?_)
    refine wp_if hF rfl ?_
    refine wp_skip (hK6 _ _ ?_)
    refine wp_seq_k fun K15 hK15 => ?_
    refine wp_rs fun K16 hK16 => ?_
    refine s_val hF (x_fa0 fa27_1 rfl) (by decide) fun a hF => ?_
    refine s_val hF (x_load rfl (m_load flat3 (m4.cell (j := 1) rfl))) (by decide) fun a hF => ?_
    refine s_val hF (x_move rfl) (by decide) fun a hF => ?_
    refine s_val hF (x_eql (b := false) (decide_eq_false (by omega)) rfl rfl) (by decide) fun a hF => ?_
    refine s_end (hK16 _ _ ?_)
    refine wp_if hF rfl ?_
    refine wp_skip (hK15 _ _ ?_)
    refine wp_region_lit ?_
    refine s_val hF (x_fa0 fa27_1 rfl) (by decide) fun a hF => ?_
    refine s_val hF (x_load rfl (m_load flat3 (m4.cell (j := 1) rfl))) (by decide) fun a hF => ?_
    refine s_val hF (x_sub (by omega) (by omega) rfl rfl) (by decide) fun a hF => ?_
    refine s_val hF (x_fa0 fa27_1 rfl) (by decide) fun a hF => ?_
    refine s_put hF rfl rfl flat3 m4 (by first | (simp; done) | (simp [tc, lc]; done) | decide) rfl fun w18 m4 o19 => ?_
    have so19 := o19.size
    have hB := hB.trans (o19.below (by omega))
    have m3 := m3.only o19 (by omega)
    have m6 := m6.only o19 (by omega)
    refine s_end (hK2 _ _ ?_)
    refine wp_rs fun K17 hK17 => ?_
    refine s_val hF (x_ldW wide27 m4 rfl rfl) (by decide) fun a hF => ?_
    refine s_putW hF rfl rfl (size_wide wide27) m6 rfl (by simp [Value.oneCell']) fun w22 m6 o23 => ?_
    have so23 := o23.size
    have hB := hB.trans (o23.below (by omega))
    have m3 := m3.only o23 (by omega)
    have m4 := m4.only o23 (by omega)
    refine s_end (hK17 _ _ ?_)
    refine wp_ret (res_cell hF rfl rfl m6 wide27 ⟨_, rfl, ⟨⟨1, n - 1, emptyB, (0, 0, nilS), nilS, nilS⟩, rfl, by rw [if_neg (by omega), if_pos (by omega)]; exact RE_var (by unfold in64; omega) (RKE.nil _ _)⟩, hB⟩)

theorem hlP (wl : World) (A : Nat → Prop) (hA : ∀ k, A k → k < wl.heap.size) (cv : CT) (xv : C8) (hv : RC wl A cv xv) (hpv : cv.ess.plain) (hvd : cv.dep ≤ 100000) (W : World) (c : CT) (x : C8) (d : Int) (hW : Below wl.heap.size wl W) (hx : RC wl A c x) (hk : c.kids = []) (hp : c.ess.plain) (hd0 : 0 ≤ d) (hd1 : d ≤ 100000) :
    Calls Try.prog 104 #[.agg (chv 1 0 0 xv nilS).toArray, tv (bareC c), .int .i64 d] W fun e w' => ∃ v, e = .returned v ∧ (∃ y, v = tv y ∧ RE w' (AS A W.heap.size) (Gp cv.ess c d []) y) ∧ Below W.heap.size W w' := by
  cases c with
  | var n m => exact leafP123 wl A hA cv xv hv hpv hvd n d hx.2.2.1 ⟨hd0, hd1⟩ W hW
  | odd k m => exact (leafO123 1 0 0 (.inr rfl) xv nilS (chv_one 1 0 0 xv hv.one) k d (odd_ne hx) W).mono fun e w' ⟨h1, h2⟩ => ⟨_, h1, ⟨_, rfl, RE_odd (by have := hx.2.1; omega) (RKE.nil _ _)⟩, h2⟩
  | sort l m => exact hp.elim
  | cst s l m => exact hp.elim
  | two k p q m => simp [CT.kids] at hk
  | lt p q r m => simp [CT.kids] at hk
theorem put_occ (v : PT) : ∀ (t : PT) (d : Int), ((PT.put v t d).size : Int) = t.size + t.occ d * (v.size - 1)
  | .var n, d => by
    simp only [PT.put, PT.occ]
    by_cases h : n = d
    · rw [if_pos h, if_pos h, (PT.lift_size _ _ _ _).1]; simp only [PT.size]; omega
    · rw [if_neg h, if_neg h]; simp only [PT.size]; omega
  | .two k p q, d => by
    have h1 := put_occ v p d
    have h2 := put_occ v q (d + if k = 3 ∨ k = 4 then 1 else 0)
    simp only [PT.put, PT.size, PT.occ, Int.natCast_add, Int.add_mul]
    omega
  | .lt p q r, d => by
    have h1 := put_occ v p d
    have h2 := put_occ v q d
    have h3 := put_occ v r (d + 1)
    simp only [PT.put, PT.size, PT.occ, Int.natCast_add, Int.add_mul]
    omega
  | .sort o, _ => by simp [PT.put, PT.size, PT.occ]
  | .cst s os, _ => by simp [PT.put, PT.size, PT.occ]
  | .odd k, _ => by simp [PT.put, PT.size, PT.occ]
theorem lift_plain (f b : Int) : ∀ (p : PT) (d : Int), p.plain → (p.lift f b d).plain
  | .var n, d, h => trivial
  | .two k p q, d, h => ⟨lift_plain f b p d h.1, lift_plain f b q _ h.2⟩
  | .lt p q r, d, h => ⟨lift_plain f b p d h.1, lift_plain f b q d h.2.1, lift_plain f b r _ h.2.2⟩
  | .odd k, d, h => trivial
theorem put_plain (v : PT) (hv : v.plain) : ∀ (p : PT) (d : Int), p.plain → (PT.put v p d).plain
  | .var n, d, h => by
    simp only [PT.put]
    split
    · exact lift_plain _ _ _ _ hv
    · trivial
  | .two k p q, d, h => ⟨put_plain v hv p d h.1, put_plain v hv q _ h.2⟩
  | .lt p q r, d, h => ⟨put_plain v hv p d h.1, put_plain v hv q d h.2.1, put_plain v hv r _ h.2.2⟩
  | .odd k, d, h => trivial
theorem inst_plain {t v : PT} (ht : t.plain) (hv : v.plain) : (PT.inst t v).plain := by
  unfold PT.inst
  split
  · exact put_plain v hv t 0 ht
  · trivial
theorem Lift_plain {t : PT} {f b : Int} (ht : t.plain) : (t.Lift f b).plain := by
  unfold PT.Lift
  split
  · exact lift_plain _ _ t 0 ht
  · trivial
/-- How great Inst's outcome would be. -/
def iszP (c v : CT) : Int := if c.ok ∧ v.ok then min 20001 ((c.size : Int) + (c.ess.occ 0 : Int) * ((v.size : Int) - 1)) else 0

set_option maxRecDepth 100000 in
set_option maxHeartbeats 1600000 in
theorem InstSize86 (c v : CT) (x y : C8) (w0 : World) (hx : RC w0 (fun k => k < w0.heap.size) c x) (hv : RC w0 (fun k => k < w0.heap.size) v y) : Calls Try.prog 67 #[tv x, tv y] w0 fun e w' => e = .returned (.int .i64 (iszP c v)) ∧ Below w0.heap.size w0 w' := by
  have hc1 := c.ess.size_one
  have hv1 := v.ess.size_one
  rw [c.ess_size] at hc1
  rw [v.ess_size] at hv1
  have no := occ_le c.ess 0
  rw [c.ess_size] at no
  have hB := Below.refl w0.heap.size w0
  have sB := hB.size
  refine calls_fs 25 [(0, tv x), (1, tv y)] Try.func67 rfl rfl rfl rfl rfl fun a hF => ?_
  refine wp_rs fun K1 hK1 => ?_
  refine s_box (tc x) hF (by decide) rfl rfl fun w2 b2 a eb2 m2 B3 zb2 hF => ?_
  have sB3 := B3.size
  have hB := hB.trans (B3.mono hB.size)
  refine s_box (tc y) hF (by decide) rfl rfl fun w4 b3 a eb3 m3 B5 zb3 hF => ?_
  have sB5 := B5.size
  have hB := hB.trans (B5.mono hB.size)
  have m2 := m2.old B5
  refine s_val hF (x_assign rfl) (by decide) fun a hF => ?_
  refine s_end (hK1 _ _ ?_)
  rcases (show (¬ c.ok ∧ ¬ v.ok) ∨ (¬ c.ok ∧ v.ok) ∨ (c.ok ∧ ¬ v.ok) ∨ (c.ok ∧ v.ok) by by_cases h1 : c.ok <;> by_cases h2 : v.ok <;> simp [h1, h2]) with ⟨hk1, hk2⟩ | ⟨hk1, hk2⟩ | ⟨hk1, hk2⟩ | ⟨hk1, hk2⟩
  · have hr : iszP c v = 0 := if_neg (fun h => hk1 h.1)
    refine dk2_seq (w4.heap.size) (w4.heap.size) (ops := regOps Try.f67 1) (N := 6) (by kernel_rfl) wide_orders (by kernel_rfl) fun w6 hw6 B7 hS K3 hK3 => ?_
    have zw6 : w6.heap.size = w4.heap.size := by rw [hw6]
    have sB7 := B7.size
    have hB := hB.trans (B7.mono hB.size)
    have m2 := m2.old B7
    have m3 := m3.old B7
    have m2_d := m2
    have m3_d := m3
    have hB_d := hB
    refine d_val 0 7 (op := (Go.Op.load 27 (Go.Operand.tmp 2))) hF hS (by kernel_rfl) (fun W hW => x_ldW wide27 (m2_d.k2 hW (by omega)) rfl rfl) (by kernel_rfl) (by decide) fun a hF => ?_
    refine d_val 2 9 (op := (Go.Op.load 27 (Go.Operand.tmp 3))) hF hS (by kernel_rfl) (fun W hW => x_ldW wide27 (m3_d.k2 hW (by omega)) rfl rfl) (by kernel_rfl) (by decide) fun a hF => ?_
    refine d_one 1 (some 8) (Go.Op.call (Go.Call.mk (Go.Callee.value (Go.Operand.func 22)) #[(Go.Operand.tmp 7)] #[27])) (by kernel_rfl) (by kernel_rfl) fun ty pos af => ?_
    refine s_callB [_] hF (enters_of Try.func22 (by kernel_rfl) rfl) rfl (by decide) ((Size26 c x w6 (hx.bel hB)).mono fun e w' h => ⟨by rw [h.1, (show (c.mN : Int) = 0 from by rw [show c.mN = 0 from if_neg hk1]; rfl)], h.2⟩) fun w8 a B9 hF => ?_
    have sB9 := B9.size
    have hB := hB.trans (B9.mono hB.size)
    have m2 := m2.old B9
    have m3 := m3.old B9
    have hS := hS.below B9
    refine s_end ⟨hS, ?_⟩
    refine d_one 3 (some 10) (Go.Op.call (Go.Call.mk (Go.Callee.value (Go.Operand.func 22)) #[(Go.Operand.tmp 9)] #[27])) (by kernel_rfl) (by kernel_rfl) fun ty pos af => ?_
    refine s_callB [_] hF (enters_of Try.func22 (by kernel_rfl) rfl) rfl (by decide) ((Size26 v y w8 (hv.bel hB)).mono fun e w' h => ⟨by rw [h.1, (show (v.mN : Int) = 0 from by rw [show v.mN = 0 from if_neg hk2]; rfl)], h.2⟩) fun w10 a B11 hF => ?_
    have sB11 := B11.size
    have hB := hB.trans (B11.mono hB.size)
    have m2 := m2.old B11
    have m3 := m3.old B11
    have hS := hS.below B11
    refine s_end ⟨hS, ?_⟩
    refine d_val 4 5 (op := (Go.Op.assign (Go.Operand.tmp 8))) hF hS (by kernel_rfl) (fun W hW => x_assign rfl) (by kernel_rfl) (by decide) fun a hF => ?_
    refine d_val 5 6 (op := (Go.Op.assign (Go.Operand.tmp 10))) hF hS (by kernel_rfl) (fun W hW => x_assign rfl) (by kernel_rfl) (by decide) fun a hF => ?_
    refine d_end (by kernel_rfl) (hK3 _ _ ?_)
    refine wp_seq_k fun K4 hK4 => ?_
    refine wp_rs fun K5 hK5 => ?_
    refine s_val hF (x_move rfl) (by decide) fun a hF => ?_
    refine s_val hF (x_eql (b := true) (decide_eq_true (by omega)) rfl rfl) (by decide) fun a hF => ?_
    refine s_val hF (x_move rfl) (by decide) fun a hF => ?_
    refine s_grdn 13 hF rfl rfl (by decide) fun a hF => ?_
    refine s_grdn 13 hF rfl rfl (by decide) fun a hF => ?_
    refine s_val hF (x_pick (b := true) rfl rfl) (by decide) fun a hF => ?_
    refine s_end (hK5 _ _ ?_)
    refine wp_if hF rfl ?_
    refine wp_rs fun K6 hK6 => ?_
    refine s_val hF (x_assign rfl) (by decide) fun a hF => ?_
    refine s_end (hK6 _ _ ?_)
    refine wp_ret (then_ret (res_slot hF rfl rfl ⟨by rw [hr], hB⟩))
  · have hr : iszP c v = 0 := if_neg (fun h => hk1 h.1)
    refine dk2_seq (w4.heap.size) (w4.heap.size) (ops := regOps Try.f67 1) (N := 6) (by kernel_rfl) wide_orders (by kernel_rfl) fun w12 hw12 B13 hS K7 hK7 => ?_
    have zw12 : w12.heap.size = w4.heap.size := by rw [hw12]
    have sB13 := B13.size
    have hB := hB.trans (B13.mono hB.size)
    have m2 := m2.old B13
    have m3 := m3.old B13
    have m2_d := m2
    have m3_d := m3
    have hB_d := hB
    refine d_val 0 7 (op := (Go.Op.load 27 (Go.Operand.tmp 2))) hF hS (by kernel_rfl) (fun W hW => x_ldW wide27 (m2_d.k2 hW (by omega)) rfl rfl) (by kernel_rfl) (by decide) fun a hF => ?_
    refine d_val 2 9 (op := (Go.Op.load 27 (Go.Operand.tmp 3))) hF hS (by kernel_rfl) (fun W hW => x_ldW wide27 (m3_d.k2 hW (by omega)) rfl rfl) (by kernel_rfl) (by decide) fun a hF => ?_
    refine d_one 1 (some 8) (Go.Op.call (Go.Call.mk (Go.Callee.value (Go.Operand.func 22)) #[(Go.Operand.tmp 7)] #[27])) (by kernel_rfl) (by kernel_rfl) fun ty pos af => ?_
    refine s_callB [_] hF (enters_of Try.func22 (by kernel_rfl) rfl) rfl (by decide) ((Size26 c x w12 (hx.bel hB)).mono fun e w' h => ⟨by rw [h.1, (show (c.mN : Int) = 0 from by rw [show c.mN = 0 from if_neg hk1]; rfl)], h.2⟩) fun w14 a B15 hF => ?_
    have sB15 := B15.size
    have hB := hB.trans (B15.mono hB.size)
    have m2 := m2.old B15
    have m3 := m3.old B15
    have hS := hS.below B15
    refine s_end ⟨hS, ?_⟩
    refine d_one 3 (some 10) (Go.Op.call (Go.Call.mk (Go.Callee.value (Go.Operand.func 22)) #[(Go.Operand.tmp 9)] #[27])) (by kernel_rfl) (by kernel_rfl) fun ty pos af => ?_
    refine s_callB [_] hF (enters_of Try.func22 (by kernel_rfl) rfl) rfl (by decide) ((Size26 v y w14 (hv.bel hB)).mono fun e w' h => ⟨by rw [h.1, (show (v.mN : Int) = v.size from by rw [show v.mN = v.size from if_pos hk2])], h.2⟩) fun w16 a B17 hF => ?_
    have sB17 := B17.size
    have hB := hB.trans (B17.mono hB.size)
    have m2 := m2.old B17
    have m3 := m3.old B17
    have hS := hS.below B17
    refine s_end ⟨hS, ?_⟩
    refine d_val 4 5 (op := (Go.Op.assign (Go.Operand.tmp 8))) hF hS (by kernel_rfl) (fun W hW => x_assign rfl) (by kernel_rfl) (by decide) fun a hF => ?_
    refine d_val 5 6 (op := (Go.Op.assign (Go.Operand.tmp 10))) hF hS (by kernel_rfl) (fun W hW => x_assign rfl) (by kernel_rfl) (by decide) fun a hF => ?_
    refine d_end (by kernel_rfl) (hK7 _ _ ?_)
    refine wp_seq_k fun K8 hK8 => ?_
    refine wp_rs fun K9 hK9 => ?_
    refine s_val hF (x_move rfl) (by decide) fun a hF => ?_
    refine s_val hF (x_eql (b := true) (decide_eq_true (by omega)) rfl rfl) (by decide) fun a hF => ?_
    refine s_val hF (x_move rfl) (by decide) fun a hF => ?_
    refine s_grdn 13 hF rfl rfl (by decide) fun a hF => ?_
    refine s_grdn 13 hF rfl rfl (by decide) fun a hF => ?_
    refine s_val hF (x_pick (b := true) rfl rfl) (by decide) fun a hF => ?_
    refine s_end (hK9 _ _ ?_)
    refine wp_if hF rfl ?_
    refine wp_rs fun K10 hK10 => ?_
    refine s_val hF (x_assign rfl) (by decide) fun a hF => ?_
    refine s_end (hK10 _ _ ?_)
    refine wp_ret (then_ret (res_slot hF rfl rfl ⟨by rw [hr], hB⟩))
  · have hr : iszP c v = 0 := if_neg (fun h => hk2 h.2)
    refine dk2_seq (w4.heap.size) (w4.heap.size) (ops := regOps Try.f67 1) (N := 6) (by kernel_rfl) wide_orders (by kernel_rfl) fun w18 hw18 B19 hS K11 hK11 => ?_
    have zw18 : w18.heap.size = w4.heap.size := by rw [hw18]
    have sB19 := B19.size
    have hB := hB.trans (B19.mono hB.size)
    have m2 := m2.old B19
    have m3 := m3.old B19
    have m2_d := m2
    have m3_d := m3
    have hB_d := hB
    refine d_val 0 7 (op := (Go.Op.load 27 (Go.Operand.tmp 2))) hF hS (by kernel_rfl) (fun W hW => x_ldW wide27 (m2_d.k2 hW (by omega)) rfl rfl) (by kernel_rfl) (by decide) fun a hF => ?_
    refine d_val 2 9 (op := (Go.Op.load 27 (Go.Operand.tmp 3))) hF hS (by kernel_rfl) (fun W hW => x_ldW wide27 (m3_d.k2 hW (by omega)) rfl rfl) (by kernel_rfl) (by decide) fun a hF => ?_
    refine d_one 1 (some 8) (Go.Op.call (Go.Call.mk (Go.Callee.value (Go.Operand.func 22)) #[(Go.Operand.tmp 7)] #[27])) (by kernel_rfl) (by kernel_rfl) fun ty pos af => ?_
    refine s_callB [_] hF (enters_of Try.func22 (by kernel_rfl) rfl) rfl (by decide) ((Size26 c x w18 (hx.bel hB)).mono fun e w' h => ⟨by rw [h.1, (show (c.mN : Int) = c.size from by rw [show c.mN = c.size from if_pos hk1])], h.2⟩) fun w20 a B21 hF => ?_
    have sB21 := B21.size
    have hB := hB.trans (B21.mono hB.size)
    have m2 := m2.old B21
    have m3 := m3.old B21
    have hS := hS.below B21
    refine s_end ⟨hS, ?_⟩
    refine d_one 3 (some 10) (Go.Op.call (Go.Call.mk (Go.Callee.value (Go.Operand.func 22)) #[(Go.Operand.tmp 9)] #[27])) (by kernel_rfl) (by kernel_rfl) fun ty pos af => ?_
    refine s_callB [_] hF (enters_of Try.func22 (by kernel_rfl) rfl) rfl (by decide) ((Size26 v y w20 (hv.bel hB)).mono fun e w' h => ⟨by rw [h.1, (show (v.mN : Int) = 0 from by rw [show v.mN = 0 from if_neg hk2]; rfl)], h.2⟩) fun w22 a B23 hF => ?_
    have sB23 := B23.size
    have hB := hB.trans (B23.mono hB.size)
    have m2 := m2.old B23
    have m3 := m3.old B23
    have hS := hS.below B23
    refine s_end ⟨hS, ?_⟩
    refine d_val 4 5 (op := (Go.Op.assign (Go.Operand.tmp 8))) hF hS (by kernel_rfl) (fun W hW => x_assign rfl) (by kernel_rfl) (by decide) fun a hF => ?_
    refine d_val 5 6 (op := (Go.Op.assign (Go.Operand.tmp 10))) hF hS (by kernel_rfl) (fun W hW => x_assign rfl) (by kernel_rfl) (by decide) fun a hF => ?_
    refine d_end (by kernel_rfl) (hK11 _ _ ?_)
    refine wp_seq_k fun K12 hK12 => ?_
    refine wp_rs fun K13 hK13 => ?_
    refine s_val hF (x_move rfl) (by decide) fun a hF => ?_
    refine s_val hF (x_eql (b := false) (decide_eq_false (by omega)) rfl rfl) (by decide) fun a hF => ?_
    refine s_val hF (x_move rfl) (by decide) fun a hF => ?_
    refine s_grd 13 hF rfl rfl rfl ?_
    refine s_val hF (x_move rfl) (by decide) fun a hF => ?_
    refine s_grd 13 hF rfl rfl rfl ?_
    refine s_val hF (x_eql (b := true) (decide_eq_true (by omega)) rfl rfl) (by decide) fun a hF => ?_
    refine s_val hF (x_pick (b := false) rfl rfl) (by decide) fun a hF => ?_
    refine s_end (hK13 _ _ ?_)
    refine wp_if hF rfl ?_
    refine wp_rs fun K14 hK14 => ?_
    refine s_val hF (x_assign rfl) (by decide) fun a hF => ?_
    refine s_end (hK14 _ _ ?_)
    refine wp_ret (then_ret (res_slot hF rfl rfl ⟨by rw [hr], hB⟩))
  · have hr : iszP c v = min 20001 ((c.size : Int) + (c.ess.occ 0 : Int) * ((v.size : Int) - 1)) := if_pos ⟨hk1, hk2⟩
    have s1 := hk1.1
    have s2 := hk2.1
    have hp0 : 0 ≤ (c.ess.occ 0 : Int) * ((v.size : Int) - 1) := Int.mul_nonneg (by omega) (by omega)
    have hp1 : (c.ess.occ 0 : Int) * ((v.size : Int) - 1) ≤ 20000 * 20000 := Int.mul_le_mul (by omega) (by omega) (by omega) (by decide)
    refine dk2_seq (w4.heap.size) (w4.heap.size) (ops := regOps Try.f67 1) (N := 6) (by kernel_rfl) wide_orders (by kernel_rfl) fun w24 hw24 B25 hS K15 hK15 => ?_
    have zw24 : w24.heap.size = w4.heap.size := by rw [hw24]
    have sB25 := B25.size
    have hB := hB.trans (B25.mono hB.size)
    have m2 := m2.old B25
    have m3 := m3.old B25
    have m2_d := m2
    have m3_d := m3
    have hB_d := hB
    refine d_val 0 7 (op := (Go.Op.load 27 (Go.Operand.tmp 2))) hF hS (by kernel_rfl) (fun W hW => x_ldW wide27 (m2_d.k2 hW (by omega)) rfl rfl) (by kernel_rfl) (by decide) fun a hF => ?_
    refine d_val 2 9 (op := (Go.Op.load 27 (Go.Operand.tmp 3))) hF hS (by kernel_rfl) (fun W hW => x_ldW wide27 (m3_d.k2 hW (by omega)) rfl rfl) (by kernel_rfl) (by decide) fun a hF => ?_
    refine d_one 1 (some 8) (Go.Op.call (Go.Call.mk (Go.Callee.value (Go.Operand.func 22)) #[(Go.Operand.tmp 7)] #[27])) (by kernel_rfl) (by kernel_rfl) fun ty pos af => ?_
    refine s_callB [_] hF (enters_of Try.func22 (by kernel_rfl) rfl) rfl (by decide) ((Size26 c x w24 (hx.bel hB)).mono fun e w' h => ⟨by rw [h.1, (show (c.mN : Int) = c.size from by rw [show c.mN = c.size from if_pos hk1])], h.2⟩) fun w26 a B27 hF => ?_
    have sB27 := B27.size
    have hB := hB.trans (B27.mono hB.size)
    have m2 := m2.old B27
    have m3 := m3.old B27
    have hS := hS.below B27
    refine s_end ⟨hS, ?_⟩
    refine d_one 3 (some 10) (Go.Op.call (Go.Call.mk (Go.Callee.value (Go.Operand.func 22)) #[(Go.Operand.tmp 9)] #[27])) (by kernel_rfl) (by kernel_rfl) fun ty pos af => ?_
    refine s_callB [_] hF (enters_of Try.func22 (by kernel_rfl) rfl) rfl (by decide) ((Size26 v y w26 (hv.bel hB)).mono fun e w' h => ⟨by rw [h.1, (show (v.mN : Int) = v.size from by rw [show v.mN = v.size from if_pos hk2])], h.2⟩) fun w28 a B29 hF => ?_
    have sB29 := B29.size
    have hB := hB.trans (B29.mono hB.size)
    have m2 := m2.old B29
    have m3 := m3.old B29
    have hS := hS.below B29
    refine s_end ⟨hS, ?_⟩
    refine d_val 4 5 (op := (Go.Op.assign (Go.Operand.tmp 8))) hF hS (by kernel_rfl) (fun W hW => x_assign rfl) (by kernel_rfl) (by decide) fun a hF => ?_
    refine d_val 5 6 (op := (Go.Op.assign (Go.Operand.tmp 10))) hF hS (by kernel_rfl) (fun W hW => x_assign rfl) (by kernel_rfl) (by decide) fun a hF => ?_
    refine d_end (by kernel_rfl) (hK15 _ _ ?_)
    refine wp_seq_k fun K16 hK16 => ?_
    refine wp_rs fun K17 hK17 => ?_
    refine s_val hF (x_move rfl) (by decide) fun a hF => ?_
    refine s_val hF (x_eql (b := false) (decide_eq_false (by omega)) rfl rfl) (by decide) fun a hF => ?_
    refine s_val hF (x_move rfl) (by decide) fun a hF => ?_
    refine s_grd 13 hF rfl rfl rfl ?_
    refine s_val hF (x_move rfl) (by decide) fun a hF => ?_
    refine s_grd 13 hF rfl rfl rfl ?_
    refine s_val hF (x_eql (b := false) (decide_eq_false (by omega)) rfl rfl) (by decide) fun a hF => ?_
    refine s_val hF (x_pick (b := false) rfl rfl) (by decide) fun a hF => ?_
    refine s_end (hK17 _ _ ?_)
    refine wp_if hF rfl ?_
    refine wp_skip (hK16 _ _ ?_)
    refine wp_rs fun K18 hK18 => ?_
    refine s_val hF (x_move rfl) (by decide) fun a hF => ?_
    refine s_val hF (x_ldW wide27 m2 rfl rfl) (by decide) fun a hF => ?_
    refine s_callB [_, _] hF (enters_of Try.func40 (by kernel_rfl) rfl) rfl (by decide) (Occurs51 c x w28 (hx.bel hB) hk1) fun w30 a B31 hF => ?_
    have sB31 := B31.size
    have hB := hB.trans (B31.mono hB.size)
    have m2 := m2.old B31
    have m3 := m3.old B31
    refine s_val hF (x_move rfl) (by decide) fun a hF => ?_
    refine s_val hF (x_sub (by omega) (by omega) rfl rfl) (by decide) fun a hF => ?_
    refine s_val hF (x_mul (by omega) (by omega) rfl rfl) (by decide) fun a hF => ?_
    refine s_val hF (x_add (by omega) (by omega) rfl rfl) (by decide) fun a hF => ?_
    refine s_val hF (x_imin rfl rfl) (by decide) fun a hF => ?_
    refine s_val hF (x_assign rfl) (by decide) fun a hF => ?_
    refine s_end (hK18 _ _ ?_)
    refine wp_ret (res_slot hF rfl rfl ⟨by rw [hr], hB⟩)

def fitC (c : CT) (x : C8) : C8 := if c.ok then x else Z0

set_option maxRecDepth 100000 in
set_option maxHeartbeats 1600000 in
theorem fits64 (c : CT) (x : C8) (w0 : World) (hx : RC w0 (fun k => k < w0.heap.size) c x) : Calls Try.prog 53 #[tv x] w0 fun e w' => e = .returned (tv (fitC c x)) ∧ Below w0.heap.size w0 w' := by
  have hB := Below.refl w0.heap.size w0
  have sB := hB.size
  refine calls_fs 7 [(0, tv x)] Try.func53 rfl rfl rfl rfl rfl fun a hF => ?_
  refine wp_rs fun K1 hK1 => ?_
  refine s_box (tc x) hF (by decide) rfl rfl fun w2 b1 a eb1 m1 B3 zb1 hF => ?_
  have sB3 := B3.size
  have hB := hB.trans (B3.mono hB.size)
  refine s_alloc hF (by decide) zero27 fun w4 b2 a eb2 m2 B5 zb2 hF => ?_
  have sB5 := B5.size
  have hB := hB.trans (B5.mono hB.size)
  have m1 := m1.old B5
  refine s_end (hK1 _ _ ?_)
  refine wp_seq_k fun K2 hK2 => ?_
  rcases (show ¬ c.ok ∨ c.ok by by_cases h : c.ok <;> simp [h]) with hk1 | hk1
  · have hr : fitC c x = Z0 := if_neg hk1
    refine wp_rs fun K4 hK4 => ?_
    refine s_val hF (x_ldW wide27 m1 rfl rfl) (by decide) fun a hF => ?_
    refine s_callB [_] hF (enters_of Try.func10 (by kernel_rfl) rfl) rfl (by decide) ((TooGreat14 c x w4 (hx.bel hB)).mono fun e w' h => ⟨by rw [h.1, decide_eq_true (p := ¬ c.ok) hk1], h.2⟩) fun w6 a B7 hF => ?_
    have sB7 := B7.size
    have hB := hB.trans (B7.mono hB.size)
    have m1 := m1.old B7
    have m2 := m2.old B7
    refine s_end (hK4 _ _ ?_)
    refine wp_if hF rfl ?_
    refine wp_rs fun K5 hK5 => ?_
    refine s_val hF (x_build (vs := []) rfl (b27_ _)) (by decide) fun a hF => ?_
    refine s_putW hF rfl rfl (size_wide wide27) m2 rfl one8 fun w10 m2 o11 => ?_
    have so11 := o11.size
    have hB := hB.trans (o11.below (by omega))
    have m1 := m1.only o11 (by omega)
    refine s_end (hK5 _ _ ?_)
    refine wp_ret (then_ret (res_cell hF rfl rfl m2 wide27 ⟨by rw [hr]; try rfl, hB⟩))
  · have hr : fitC c x = x := if_pos hk1
    refine wp_rs fun K6 hK6 => ?_
    refine s_val hF (x_ldW wide27 m1 rfl rfl) (by decide) fun a hF => ?_
    refine s_callB [_] hF (enters_of Try.func10 (by kernel_rfl) rfl) rfl (by decide) ((TooGreat14 c x w4 (hx.bel hB)).mono fun e w' h => ⟨by rw [h.1, decide_eq_false (p := ¬ c.ok) (fun h => h hk1)], h.2⟩) fun w12 a B13 hF => ?_
    have sB13 := B13.size
    have hB := hB.trans (B13.mono hB.size)
    have m1 := m1.old B13
    have m2 := m2.old B13
    refine s_end (hK6 _ _ ?_)
    refine wp_if hF rfl ?_
    refine wp_skip (hK2 _ _ ?_)
    refine wp_rs fun K7 hK7 => ?_
    refine s_val hF (x_ldW wide27 m1 rfl rfl) (by decide) fun a hF => ?_
    refine s_putW hF rfl rfl (size_wide wide27) m2 rfl hx.one fun w16 m2 o17 => ?_
    have so17 := o17.size
    have hB := hB.trans (o17.below (by omega))
    have m1 := m1.only o17 (by omega)
    refine s_end (hK7 _ _ ?_)
    refine wp_ret (res_cell hF rfl rfl m2 wide27 ⟨by rw [hr]; try rfl, hB⟩)

set_option maxRecDepth 100000 in
set_option maxHeartbeats 1600000 in
theorem rInst43 (A : Nat → Prop) (c v : CT) (x y : C8) (wl : World) (hA : ∀ k, A k → k < wl.heap.size) (hxA : RC wl A c x) (hvA : RC wl A v y) (hp : c.ess.plain) (hpv : v.ess.plain) (W : World) (hW : Below wl.heap.size wl W) : Calls Try.prog 30 #[tv x, tv y] W fun e w' => ∃ r, e = .returned r ∧ (∃ y, r = tv y ∧ RE w' (AS A W.heap.size) (PT.inst c.ess v.ess) y) ∧ Below W.heap.size W w' := by
  have hx := hxA.mono hA
  have hv := hvA.mono hA
  have hxb := hx.bel hW
  have hvb := hv.bel hW
  have hocc := put_occ v.ess c.ess 0
  rw [c.ess_size, v.ess_size] at hocc
  have hc1 := c.ess.size_one
  rw [c.ess_size] at hc1
  obtain ⟨⟨l9, hl9⟩, ls9, hv9⟩ := hvA.ok
  obtain ⟨av, nv, cv, hts, hle9, hlen9, hcap, hkid⟩ := hvA.kids
  obtain ⟨yk, yn, ys, ⟨p1, p2, p3⟩, yls, yts⟩ := y
  obtain ⟨n9, cs9, hs9⟩ := hl9.slice
  obtain ⟨a9, d9, h9, _⟩ := hs9.form
  obtain ⟨a8, d8, h8, _⟩ := hv9.form
  simp only at hts h9 h8
  subst hts h9 h8
  have hz1 := chv_one 1 0 0 _ hvA.one
  have hB := Below.refl W.heap.size W
  have sB := hB.size
  have sW := hW.size
  refine calls_fs 21 [(0, tv x), (1, tv ⟨yk, yn, ys, (p1, p2, .slice a9 n9 d9), .slice a8 ls9.length d8, .slice av nv cv⟩)] Try.func30 rfl rfl rfl rfl rfl fun a hF => ?_
  refine wp_rs fun K1 hK1 => ?_
  refine s_box (tc x) hF (by decide) rfl rfl fun w2 b2 a eb2 m2 B3 zb2 hF => ?_
  have sB3 := B3.size
  have hB := hB.trans (B3.mono hB.size)
  refine s_box ([.int .i64 yk, .int .i64 yn, .string ys, .int .i64 p1, .int .i64 p2, .slice a9 n9 d9, .slice a8 ls9.length d8, .slice av nv cv]) hF (by decide) rfl rfl fun w4 b3 a eb3 m3 B5 zb3 hF => ?_
  have sB5 := B5.size
  have hB := hB.trans (B5.mono hB.size)
  have m2 := m2.old B5
  refine s_alloc hF (by decide) zero27 fun w6 b4 a eb4 m4 B7 zb4 hF => ?_
  have sB7 := B7.size
  have hB := hB.trans (B7.mono hB.size)
  have m2 := m2.old B7
  have m3 := m3.old B7
  refine s_end (hK1 _ _ ?_)
  refine wp_seq_k fun K2 hK2 => ?_
  rcases (show ¬ (c.ok ∧ v.ok) ∨ ((c.ok ∧ v.ok) ∧ 20000 < ((PT.put v.ess c.ess 0).size : Int)) ∨ ((c.ok ∧ v.ok) ∧ ¬ 20000 < ((PT.put v.ess c.ess 0).size : Int)) by by_cases h : c.ok ∧ v.ok; (· right; simp only [h, true_and]; omega); exact .inl h) with hk | ⟨⟨hk1, hk2⟩, hk3⟩ | ⟨⟨hk1, hk2⟩, hk3⟩
  · have hi : iszP c v = 0 := if_neg hk
    have hres : PT.inst c.ess v.ess = .odd 0 := if_neg (fun h => hk ⟨c.ok_ess.1 h.1, v.ok_ess.1 h.2.1⟩)
    refine wp_rs fun K4 hK4 => ?_
    refine s_val hF (x_ldW wide27 m2 rfl rfl) (by decide) fun a hF => ?_
    refine s_val hF (x_ldW wide27 m3 rfl rfl) (by decide) fun a hF => ?_
    refine s_callB [_, _] hF (enters_of Try.func67 (by kernel_rfl) rfl) rfl (by decide) ((InstSize86 c v x ⟨yk, yn, ys, (p1, p2, .slice a9 n9 d9), .slice a8 ls9.length d8, .slice av nv cv⟩ w6 (hxb.bel hB) (hvb.bel hB)).mono fun e w' h => ⟨by rw [h.1, hi], h.2⟩) fun w8 a B9 hF => ?_
    have sB9 := B9.size
    have hB := hB.trans (B9.mono hB.size)
    have m2 := m2.old B9
    have m3 := m3.old B9
    have m4 := m4.old B9
    refine s_val hF (x_assign rfl) (by decide) fun a hF => ?_
    refine s_end (hK4 _ _ ?_)
    refine wp_rs fun K5 hK5 => ?_
    refine s_val hF (x_move rfl) (by decide) fun a hF => ?_
    refine s_val hF (x_eql (b := true) (decide_eq_true (by omega)) rfl rfl) (by decide) fun a hF => ?_
    refine s_val hF (x_move rfl) (by decide) fun a hF => ?_
    refine s_grdn 11 hF rfl rfl (by decide) fun a hF => ?_
    refine s_grdn 11 hF rfl rfl (by decide) fun a hF => ?_
    refine s_val hF (x_pick (b := true) rfl rfl) (by decide) fun a hF => ?_
    refine s_end (hK5 _ _ ?_)
    refine wp_if hF rfl ?_
    refine wp_rs fun K6 hK6 => ?_
    refine s_val hF (x_build (vs := []) rfl (b27_ _)) (by decide) fun a hF => ?_
    refine s_putW hF rfl rfl (size_wide wide27) m4 rfl one8 fun w12 m4 o13 => ?_
    have so13 := o13.size
    have hB := hB.trans (o13.below (by omega))
    have m2 := m2.only o13 (by omega)
    have m3 := m3.only o13 (by omega)
    refine s_end (hK6 _ _ ?_)
    refine wp_ret (then_ret (res_cell hF rfl rfl m4 wide27 ⟨_, rfl, ⟨⟨0, 0, emptyB, (0, 0, nilS), nilS, nilS⟩, rfl, by rw [hres]; exact RE_bare _ _⟩, hB⟩))
  · have hi : iszP c v = 20001 := by unfold iszP; rw [if_pos ⟨hk1, hk2⟩]; omega
    have hres : PT.inst c.ess v.ess = .odd 0 := if_neg (fun h => by have := h.2.2.1; omega)
    refine wp_rs fun K7 hK7 => ?_
    refine s_val hF (x_ldW wide27 m2 rfl rfl) (by decide) fun a hF => ?_
    refine s_val hF (x_ldW wide27 m3 rfl rfl) (by decide) fun a hF => ?_
    refine s_callB [_, _] hF (enters_of Try.func67 (by kernel_rfl) rfl) rfl (by decide) ((InstSize86 c v x ⟨yk, yn, ys, (p1, p2, .slice a9 n9 d9), .slice a8 ls9.length d8, .slice av nv cv⟩ w6 (hxb.bel hB) (hvb.bel hB)).mono fun e w' h => ⟨by rw [h.1, hi], h.2⟩) fun w14 a B15 hF => ?_
    have sB15 := B15.size
    have hB := hB.trans (B15.mono hB.size)
    have m2 := m2.old B15
    have m3 := m3.old B15
    have m4 := m4.old B15
    refine s_val hF (x_assign rfl) (by decide) fun a hF => ?_
    refine s_end (hK7 _ _ ?_)
    refine wp_rs fun K8 hK8 => ?_
    refine s_val hF (x_move rfl) (by decide) fun a hF => ?_
    refine s_val hF (x_eql (b := false) (decide_eq_false (by omega)) rfl rfl) (by decide) fun a hF => ?_
    refine s_val hF (x_move rfl) (by decide) fun a hF => ?_
    refine s_grd 11 hF rfl rfl rfl ?_
    refine s_val hF (x_move rfl) (by decide) fun a hF => ?_
    refine s_grd 11 hF rfl rfl rfl ?_
    refine s_val hF (x_gtr (b := true) (decide_eq_true (by omega)) rfl rfl) (by decide) fun a hF => ?_
    refine s_val hF (x_pick (b := false) rfl rfl) (by decide) fun a hF => ?_
    refine s_end (hK8 _ _ ?_)
    refine wp_if hF rfl ?_
    refine wp_rs fun K9 hK9 => ?_
    refine s_val hF (x_build (vs := []) rfl (b27_ _)) (by decide) fun a hF => ?_
    refine s_putW hF rfl rfl (size_wide wide27) m4 rfl one8 fun w18 m4 o19 => ?_
    have so19 := o19.size
    have hB := hB.trans (o19.below (by omega))
    have m2 := m2.only o19 (by omega)
    have m3 := m3.only o19 (by omega)
    refine s_end (hK9 _ _ ?_)
    refine wp_ret (then_ret (res_cell hF rfl rfl m4 wide27 ⟨_, rfl, ⟨⟨0, 0, emptyB, (0, 0, nilS), nilS, nilS⟩, rfl, by rw [hres]; exact RE_bare _ _⟩, hB⟩))
  · have hi : iszP c v = ((PT.put v.ess c.ess 0).size : Int) := by unfold iszP; rw [if_pos ⟨hk1, hk2⟩]; omega
    have hs1 := (PT.put v.ess c.ess 0).size_one
    have hcd := hk1.2
    have hin : (PT.put v.ess c.ess 0).ok → PT.inst c.ess v.ess = PT.put v.ess c.ess 0 := fun h => if_pos ⟨c.ok_ess.2 hk1, v.ok_ess.2 hk2, h⟩
    have hno : ¬ (PT.put v.ess c.ess 0).ok → PT.inst c.ess v.ess = .odd 0 := fun h => if_neg (fun h9 => h h9.2.2)
    refine wp_rs fun K10 hK10 => ?_
    refine s_val hF (x_ldW wide27 m2 rfl rfl) (by decide) fun a hF => ?_
    refine s_val hF (x_ldW wide27 m3 rfl rfl) (by decide) fun a hF => ?_
    refine s_callB [_, _] hF (enters_of Try.func67 (by kernel_rfl) rfl) rfl (by decide) ((InstSize86 c v x ⟨yk, yn, ys, (p1, p2, .slice a9 n9 d9), .slice a8 ls9.length d8, .slice av nv cv⟩ w6 (hxb.bel hB) (hvb.bel hB)).mono fun e w' h => ⟨by rw [h.1, hi], h.2⟩) fun w20 a B21 hF => ?_
    have sB21 := B21.size
    have hB := hB.trans (B21.mono hB.size)
    have m2 := m2.old B21
    have m3 := m3.old B21
    have m4 := m4.old B21
    refine s_val hF (x_assign rfl) (by decide) fun a hF => ?_
    refine s_end (hK10 _ _ ?_)
    refine wp_rs fun K11 hK11 => ?_
    refine s_val hF (x_move rfl) (by decide) fun a hF => ?_
    refine s_val hF (x_eql (b := false) (decide_eq_false (by omega)) rfl rfl) (by decide) fun a hF => ?_
    refine s_val hF (x_move rfl) (by decide) fun a hF => ?_
    refine s_grd 11 hF rfl rfl rfl ?_
    refine s_val hF (x_move rfl) (by decide) fun a hF => ?_
    refine s_grd 11 hF rfl rfl rfl ?_
    refine s_val hF (x_gtr (b := false) (decide_eq_false (by omega)) rfl rfl) (by decide) fun a hF => ?_
    refine s_val hF (x_pick (b := false) rfl rfl) (by decide) fun a hF => ?_
    refine s_end (hK11 _ _ ?_)
    refine wp_if hF rfl ?_
    refine wp_skip (hK2 _ _ ?_)
    refine wp_rs fun K12 hK12 => ?_
    refine s_val hF (x_ldW wide27 m3 rfl rfl) (by decide) fun a hF => ?_
    refine s_val hF (x_build (vs := [(0, _), (3, _)]) rfl (b97_03 _ _ _ _ _ _ _ _ _ _ _ _ _ _ _)) (by decide) fun a hF => ?_
    refine s_val hF (x_ldW wide27 m2 rfl rfl) (by decide) fun a hF => ?_
    refine s_callR (R := fun r w' => ∃ y, r = tv y ∧ RE w' (AS A w20.heap.size) (c.fold (Gp v.ess) 0) y) [_, _, _] hF (enters_of Try.func68 (by kernel_rfl) rfl) rfl (by decide) (walk87 wl A hA 1 0 0 _ nilS (hz1) (Gp v.ess) (Gp_kids v.ess) (fun W' c x d h1 h2 h3 h4 h5 h6 => hlP wl A hA v _ hvA hpv (by have := hk2.2; omega) W' c x d h1 h2 h3 h4 h5 h6) (c.size + 1) c x 0 w20 (by omega) hxA hp (by decide) (by omega) (hW.trans (hB.mono sW))) ?_
    rintro _ w22 a ⟨y9, rfl, hy9⟩ B23 hF
    have sB23 := B23.size
    have hB := hB.trans (B23.mono hB.size)
    have m2 := m2.old B23
    have m3 := m3.old B23
    have m4 := m4.old B23
    rw [fold_put'] at hy9
    obtain ⟨c9, hc9, he9⟩ := hy9
    have hokp : c9.ok ↔ (PT.put v.ess c.ess 0).ok := by rw [← c9.ok_ess, he9]
    refine s_callB [_] hF (enters_of Try.func53 (by kernel_rfl) rfl) rfl (by decide) (fits64 c9 y9 w22 (hc9.valid.mono (fun k hk => hk.2))) fun w24 a B25 hF => ?_
    have sB25 := B25.size
    have hB := hB.trans (B25.mono hB.size)
    have m2 := m2.old B25
    have m3 := m3.old B25
    have m4 := m4.old B25
    have hc9 := hc9.below B25
    have hfit : RE w24 (AS A w20.heap.size) (PT.inst c.ess v.ess) (fitC c9 y9) := by
      by_cases hk3 : c9.ok
      · rw [show fitC c9 y9 = y9 from if_pos hk3, hin (hokp.1 hk3), ← he9]; exact hc9.re
      · rw [show fitC c9 y9 = Z0 from if_neg hk3, hno (fun h => hk3 (hokp.2 h))]; exact RE_bare _ _
    refine s_putW hF rfl rfl (size_wide wide27) m4 rfl hfit.one fun w28 m4 o29 => ?_
    have so29 := o29.size
    have hB := hB.trans (o29.below (by omega))
    have m2 := m2.only o29 (by omega)
    have m3 := m3.only o29 (by omega)
    have hfit := hfit.only o29 (by intro h; rcases h with h | h; (have := hA _ h; omega); omega)
    refine s_end (hK12 _ _ ?_)
    refine wp_ret (res_cell hF rfl rfl m4 wide27 ⟨_, rfl, ⟨fitC c9 y9, rfl, hfit.mono (AS.mono (by omega))⟩, hB⟩)
end Go.Proofs.Ytaclncmkdpjnlaa

namespace Go.Proofs.Ytaclncmkdpjnlaa
open Go.RowKit Go.Shelf
set_option linter.unusedVariables false
set_option linter.unusedSimpArgs false

theorem mN_same {c d : CT} (h : c.ess = d.ess) : c.mN = d.mN := by
  have h1 : c.ok ↔ d.ok := by rw [← c.ok_ess, ← d.ok_ess, h]
  have h2 : c.size = d.size := by rw [← c.ess_size, ← d.ess_size, h]
  unfold CT.mN
  by_cases hc : c.ok
  · rw [if_pos hc, if_pos (h1.1 hc), h2]
  · rw [if_neg hc, if_neg (fun h => hc (h1.2 h))]
theorem dbl_apps : PT.appsR (.var 0) [.var 0] = .two 6 (.var 0) (.var 0) := by
  unfold PT.appsR
  rw [if_pos (by unfold PT.ok; simp [PT.apps, PT.size, PT.dep])]
  rfl

set_option maxRecDepth 100000 in
set_option maxHeartbeats 1600000 in
theorem App47 (A : Nat → Prop) (c d : CT) (x y : C8) (w0 : World) (hA : ∀ k, A k → k < w0.heap.size) (hx : RC w0 A c x) (hy : RC w0 A d y) : Calls Try.prog 34 #[tv x, tv y] w0 fun e w' => ∃ u, e = .returned u ∧ (∃ y, u = tv y ∧ RE w' (AS A w0.heap.size) (.two 6 c.ess d.ess) y) ∧ Below w0.heap.size w0 w' := by
  have hB := Below.refl w0.heap.size w0
  have sB := hB.size
  refine calls_fs 9 [(0, tv x), (1, tv y)] Try.func34 rfl rfl rfl rfl rfl fun a hF => ?_
  refine wp_rs fun K1 hK1 => ?_
  refine s_box (tc x) hF (by decide) rfl rfl fun w2 b2 a eb2 m2 B3 zb2 hF => ?_
  have sB3 := B3.size
  have hB := hB.trans (B3.mono hB.size)
  refine s_box (tc y) hF (by decide) rfl rfl fun w4 b3 a eb3 m3 B5 zb3 hF => ?_
  have sB5 := B5.size
  have hB := hB.trans (B5.mono hB.size)
  have m2 := m2.old B5
  refine s_alloc hF (by decide) zero27 fun w6 b4 a eb4 m4 B7 zb4 hF => ?_
  have sB7 := B7.size
  have hB := hB.trans (B7.mono hB.size)
  have m2 := m2.old B7
  have m3 := m3.old B7
  refine s_end (hK1 _ _ ?_)
  refine wp_rs fun K2 hK2 => ?_
  refine s_val hF (x_ldW wide27 m2 rfl rfl) (by decide) fun a hF => ?_
  refine s_val hF (x_ldW wide27 m3 rfl rfl) (by decide) fun a hF => ?_
  refine s_litG [tv x, tv y] el25 hF (by decide) rfl (by simp [Value.cells, tc]) rfl (by decide) (by decide) fun w8 bl a ebl ml B9 zbl hF => ?_
  have sB9 := B9.size
  have hB := hB.trans (B9.mono hB.size)
  have m2 := m2.old B9
  have m3 := m3.old B9
  have m4 := m4.old B9
  have ml : Blk w8 bl 27 (tc x ++ tc y) := by simpa [Value.cells] using ml
  refine s_val hF (x_build (vs := [(0, _), (5, _)]) rfl (b27_05 _ _ _ _ _)) (by decide) fun a hF => ?_
  refine s_putW hF rfl rfl (size_wide wide27) m4 rfl (one_tc0 _ _ _ _ rfl) fun w12 m4 o13 => ?_
  have so13 := o13.size
  have hB := hB.trans (o13.below (by omega))
  have m2 := m2.only o13 (by omega)
  have m3 := m3.only o13 (by omega)
  have ml := ml.only o13 (by omega)
  refine s_end (hK2 _ _ ?_)
  have hke : RKE w12 (AS A w0.heap.size) (.slice (some ⟨bl, 0, none⟩) 2 2) [c.ess, d.ess] := ⟨[x, y], ⟨by simpa using Rd.blk ml (n := 2) rfl, fun _ b hb => by simp [Value.ownBlock] at hb; subst hb; exact .inr (by omega)⟩, rfl, fun i x2 p e1 e2 => by rcases i with _ | _ | i; (· simp at e1 e2; subst e1 e2; exact ((hx.keep hB.size (fun k hk _ => hB.block k (hA k hk))).mono (fun k hk => .inl hk)).re); (· simp at e1 e2; subst e1 e2; exact ((hy.keep hB.size (fun k hk _ => hB.block k (hA k hk))).mono (fun k hk => .inl hk)).re); simp at e1⟩
  refine wp_ret (res_cell hF rfl rfl m4 wide27 ⟨_, rfl, ⟨⟨6, 0, emptyB, (0, 0, nilS), nilS, .slice (some ⟨bl, 0, none⟩) 2 2⟩, rfl, RE_two (by decide) hke⟩, hB⟩)

set_option maxRecDepth 100000 in
set_option maxHeartbeats 1600000 in
theorem termDoubles_walk (ni lf : Int) (w0 : World) : Calls Try.prog 6 #[.int .i64 ni, .int .i64 lf] w0 fun e w' => e = .returned (.bool true) ∧ Below w0.heap.size w0 w' := by
  obtain ⟨N, hNe⟩ : ∃ N, N = (ni % 18446744073709551616).tmod 18 := ⟨_, rfl⟩
  have hNr := u64_rem ni 18 (by decide) (by decide)
  rw [← hNe] at hNr
  have hB := Below.refl w0.heap.size w0
  have sB := hB.size
  refine calls_fs 51 [(0, .int .i64 ni), (1, .int .i64 lf)] Try.func6 rfl rfl rfl rfl rfl fun a hF => ?_
  refine wp_rs fun K1 hK1 => ?_
  refine s_val hF (x_assign rfl) (by decide) fun a hF => ?_
  refine s_end (hK1 _ _ ?_)
  refine wp_rs fun K2 hK2 => ?_
  refine s_val hF (x_move rfl) (by decide) fun a hF => ?_
  refine s_val hF (x_cvt (k := .u64) Try.underlying3 Try.underlying49 (wrap_u64 _) rfl) (by decide) fun a hF => ?_
  refine s_val hF (x_remu _ (by decide) rfl rfl rfl) (by decide) fun a hF => ?_
  refine s_val hF (x_cvt (k := .i64) (r := N) Try.underlying49 Try.underlying3 (by rw [← hNe]; exact wrap_i64 (by omega) (by omega)) rfl) (by decide) fun a hF => ?_
  refine s_val hF (x_assign rfl) (by decide) fun a hF => ?_
  refine s_end (hK2 _ _ ?_)
  refine wp_rs fun K3 hK3 => ?_
  refine s_callR (R := fun v w' => ∃ y, v = tv y ∧ RC w' (fun _ => False) (.var 0 0) y) [_] hF (enters_of Try.func12 (by kernel_rfl) rfl) rfl (by decide) (var16 0 w0 (by unfold in64; decide)) ?_
  rintro _ w2 a ⟨y12, rfl, h12⟩ B3 hF
  have sB3 := B3.size
  have hB := hB.trans (B3.mono hB.size)
  refine s_callR (R := fun v w' => ∃ y, v = tv y ∧ RC w' (fun _ => False) (.var 0 0) y) [_] hF (enters_of Try.func33 (by kernel_rfl) rfl) rfl (by decide) (rVar46 0 w2 (by unfold in64; decide)) ?_
  rintro _ w4 a ⟨y13, rfl, h13⟩ B5 hF
  have sB5 := B5.size
  have hB := hB.trans (B5.mono hB.size)
  have h12 := h12.below B5
  refine s_alloc hF (by decide) zero27 fun w6 b5 a eb5 m5 B7 zb5 hF => ?_
  have sB7 := B7.size
  have hB := hB.trans (B7.mono hB.size)
  have h12 := h12.below B7
  have h13 := h13.below B7
  refine s_alloc hF (by decide) zero27 fun w8 b6 a eb6 m6 B9 zb6 hF => ?_
  have sB9 := B9.size
  have hB := hB.trans (B9.mono hB.size)
  have m5 := m5.old B9
  have h12 := h12.below B9
  have h13 := h13.below B9
  refine s_putW hF rfl rfl (size_wide wide27) m5 rfl h12.one fun w12 m5 o13 => ?_
  have so13 := o13.size
  have hB := hB.trans (o13.below (by omega))
  have m6 := m6.only o13 (by omega)
  have h12 := h12.only o13 (fun h => h)
  have h13 := h13.only o13 (fun h => h)
  refine s_putW hF rfl rfl (size_wide wide27) m6 rfl h13.one fun w16 m6 o17 => ?_
  have so17 := o17.size
  have hB := hB.trans (o17.below (by omega))
  have m5 := m5.only o17 (by omega)
  have h12 := h12.only o17 (fun h => h)
  have h13 := h13.only o17 (fun h => h)
  refine s_end (hK3 _ _ ?_)
  refine wp_seq_k fun K4 hK4 => ?_
  refine wp_rs fun K5 hK5 => ?_
  refine s_val hF (x_move rfl) (by decide) fun a hF => ?_
  refine s_val hF (x_move rfl) (by decide) fun a hF => ?_
  refine s_end (hK5 _ _ ?_)
  refine wp_block ?_
  refine wp_up N.toNat (fun i a w => ∃ ct cu yt yu, ct.ess = cu.ess ∧ ct.ess.plain ∧ RC w (fun k => k ≠ b5 ∧ k ≠ b6) ct yt ∧ RC w (fun k => k ≠ b5 ∧ k ≠ b6) cu yu ∧ Blk w b5 27 (tc yt) ∧ Blk w b6 27 (tc yu) ∧ Below w0.heap.size w0 w ∧ Fs 51 a [(1, .int .i64 lf), (5, .pointer (some ⟨b5, 0, none⟩)), (6, .pointer (some ⟨b6, 0, none⟩)), (14, .int .i64 N), (15, .int .i64 (i : Int))]) ⟨_, _, y12, y13, rfl, trivial, h12.mono (fun _ h => h.elim), h13.mono (fun _ h => h.elim), m5, m6, hB, hF.sub _ rfl⟩ ?_
  have hbb : w0.heap.size ≤ b5 ∧ w0.heap.size ≤ b6 ∧ b5 ≠ b6 := by omega
  repeat clear hF
  repeat clear m5
  repeat clear m6
  repeat clear hB
  clear h12 h13
  rintro i a w hi ⟨ct, cu, yt, yu, heq, hpl, hct, hcu, m5, m6, hB, hF⟩ K' hK'
  have sB := hB.size
  have h5l := m5.lt
  have h6l := m6.lt
  have hNn : (N.toNat : Int) = N := by omega
  have hct := hct.valid
  have hcu := hcu.valid
  refine wp_rs fun K6 hK6 => ?_
  refine s_val hF (x_lss (b := decide (i < N.toNat)) (decide_eq_decide.2 (by omega)) rfl rfl) (by decide) fun a hF => ?_
  refine s_end (hK6 _ _ ?_)
  refine wp_seq_k fun K7 hK7 => ?_
  refine wp_iff hF rfl (fun hc16 => ?_) (fun hc16 => ?_)
  · refine wp_skip (hK7 _ _ ?_)
    refine wp_seq_k fun K8 hK8 => ?_
    refine wp_block ?_
    refine wp_rs fun K9 hK9 => ?_
    refine s_callR (R := fun v w' => ∃ y, v = tv y ∧ RC w' (fun _ => False) (.var 0 0) y) [_] hF (enters_of Try.func12 (by kernel_rfl) rfl) rfl (by decide) (var16 0 w (by unfold in64; decide)) ?_
    rintro _ w18 a ⟨y17, rfl, h17⟩ B19 hF
    have sB19 := B19.size
    have hB := hB.trans (B19.mono hB.size)
    have m5 := m5.old B19
    have m6 := m6.old B19
    have hct := hct.below B19
    have hcu := hcu.below B19
    refine s_callR (R := fun v w' => ∃ y, v = tv y ∧ RC w' (fun _ => False) (.var 0 0) y) [_] hF (enters_of Try.func12 (by kernel_rfl) rfl) rfl (by decide) (var16 0 w18 (by unfold in64; decide)) ?_
    rintro _ w20 a ⟨y18, rfl, h18⟩ B21 hF
    have sB21 := B21.size
    have hB := hB.trans (B21.mono hB.size)
    have m5 := m5.old B21
    have m6 := m6.old B21
    have hct := hct.below B21
    have hcu := hcu.below B21
    have h17 := h17.below B21
    refine s_litG [tv y18] el25 hF (by decide) rfl (by simp [Value.cells, tc]) rfl (by decide) (by decide) fun w22 bl a ebl ml B23 zbl hF => ?_
    have sB23 := B23.size
    have hB := hB.trans (B23.mono hB.size)
    have m5 := m5.old B23
    have m6 := m6.old B23
    have hct := hct.below B23
    have hcu := hcu.below B23
    have h17 := h17.below B23
    have h18 := h18.below B23
    have ml : Blk w22 bl 27 (tc y18) := by simpa [Value.cells] using ml
    have hrk : RK w22 (fun k => (k ≠ b5 ∧ k ≠ b6) ∧ k < w22.heap.size) (.slice (some ⟨bl, 0, none⟩) 1 1) [.var 0 0] := ⟨[y18], ⟨by simpa using Rd.blk ml (n := 1) rfl, fun _ b hb => by simp [Value.ownBlock] at hb; subst hb; have := ml.lt; exact ⟨⟨by omega, by omega⟩, this⟩⟩, rfl, fun i x2 c2 e1 e2 => by rcases i with _ | i; (· simp at e1 e2; subst e1 e2; exact h18.mono (fun _ h => h.elim)); simp at e1⟩
    refine s_callR (R := fun r w' => ∃ y, r = tv y ∧ RE w' (AS (fun k => (k ≠ b5 ∧ k ≠ b6) ∧ k < w22.heap.size) w22.heap.size) (PT.appsR (CT.ess (.var 0 0)) ([.var 0 0].map CT.ess)) y) [_, _] hF (enters_of Try.func20 (by kernel_rfl) rfl) rfl (by decide) (Apps24t (fun k => (k ≠ b5 ∧ k ≠ b6) ∧ k < w22.heap.size) (.var 0 0) y17 [.var 0 0] _ w22 (fun k hk => hk.2) (h17.mono (fun _ h => h.elim)) hrk (by simp)) ?_
    rintro _ w24 a ⟨yX, rfl, hqX⟩ B25 hF
    have sB25 := B25.size
    have hB := hB.trans (B25.mono hB.size)
    have m5 := m5.old B25
    have m6 := m6.old B25
    have hct := hct.below B25
    have hcu := hcu.below B25
    have h17 := h17.below B25
    have h18 := h18.below B25
    obtain ⟨cX, hcX, heX⟩ := hqX
    have heX : cX.ess = .two 6 (.var 0) (.var 0) := heX.trans dbl_apps
    have hcX : RC w24 (fun k => (k ≠ b5 ∧ k ≠ b6) ∧ k < w24.heap.size) cX yX := hcX.valid.mono (fun k hk => by rcases hk with ⟨hk | hk, hk2⟩; (· exact ⟨hk.1, hk2⟩); exact ⟨⟨by omega, by omega⟩, hk2⟩)
    refine s_alloc hF (by decide) zero27 fun w26 b7 a eb7 m7 B27 zb7 hF => ?_
    have sB27 := B27.size
    have hB := hB.trans (B27.mono hB.size)
    have m5 := m5.old B27
    have m6 := m6.old B27
    have hct := hct.below B27
    have hcu := hcu.below B27
    have hcX := hcX.below B27
    refine s_putW hF rfl rfl (size_wide wide27) m7 rfl hcX.one fun w30 m7 o31 => ?_
    have so31 := o31.size
    have hB := hB.trans (o31.below (by omega))
    have m5 := m5.only o31 (by omega)
    have m6 := m6.only o31 (by omega)
    have hct := hct.only o31 (by intro h; first | exact h.1.1 rfl | exact h.1.2 rfl | (have := h.2; omega))
    have hcu := hcu.only o31 (by intro h; first | exact h.1.1 rfl | exact h.1.2 rfl | (have := h.2; omega))
    have hcX := hcX.only o31 (by intro h; first | exact h.1.1 rfl | exact h.1.2 rfl | (have := h.2; omega))
    refine s_end (hK9 _ _ ?_)
    refine wp_rs fun K10 hK10 => ?_
    refine s_val hF (x_ldW wide27 m7 rfl rfl) (by decide) fun a hF => ?_
    refine s_val hF (x_ldW wide27 m5 rfl rfl) (by decide) fun a hF => ?_
    refine s_callR (R := fun r w' => ∃ y, r = tv y ∧ RE w' (AS (fun k => (k ≠ b5 ∧ k ≠ b6) ∧ k < w30.heap.size) w30.heap.size) (PT.inst cX.ess ct.ess) y ∧ (cX.ok ∧ ct.ok ∧ (PT.put ct.ess cX.ess 0).ok → Tt cX y)) [_, _] hF (enters_of Try.func29 (by kernel_rfl) rfl) rfl (by decide) (Inst42t (fun k => (k ≠ b5 ∧ k ≠ b6) ∧ k < w30.heap.size) cX ct yX yt w30 (fun k hk => hk.2) (hcX.valid.mono (fun k hk => ⟨hk.1.1, hk.2⟩)) (hct.valid.mono (fun k hk => ⟨hk.1.1, hk.2⟩))) ?_
    rintro _ w32 a ⟨yN, rfl, hqN, _⟩ B33 hF
    have sB33 := B33.size
    have hB := hB.trans (B33.mono hB.size)
    have m5 := m5.old B33
    have m6 := m6.old B33
    have m7 := m7.old B33
    have hct := hct.below B33
    have hcu := hcu.below B33
    have hcX := hcX.below B33
    obtain ⟨cN, hcN, heN⟩ := hqN
    rw [heX] at heN
    have hcN : RC w32 (fun k => (k ≠ b5 ∧ k ≠ b6) ∧ k < w32.heap.size) cN yN := hcN.valid.mono (fun k hk => by rcases hk with ⟨hk | hk, hk2⟩; (· exact ⟨hk.1, hk2⟩); exact ⟨⟨by omega, by omega⟩, hk2⟩)
    refine s_putW hF rfl rfl (size_wide wide27) m5 rfl hcN.one fun w36 m5 o37 => ?_
    have so37 := o37.size
    have hB := hB.trans (o37.below (by omega))
    have m6 := m6.only o37 (by omega)
    have m7 := m7.only o37 (by omega)
    have hct := hct.only o37 (by intro h; first | exact h.1.1 rfl | exact h.1.2 rfl | (have := h.2; omega))
    have hcu := hcu.only o37 (by intro h; first | exact h.1.1 rfl | exact h.1.2 rfl | (have := h.2; omega))
    have hcX := hcX.only o37 (by intro h; first | exact h.1.1 rfl | exact h.1.2 rfl | (have := h.2; omega))
    have hcN := hcN.only o37 (by intro h; first | exact h.1.1 rfl | exact h.1.2 rfl | (have := h.2; omega))
    refine s_end (hK10 _ _ ?_)
    refine dk2_seq (b6) (b6) (ops := regOps Try.f6 7) (N := 6) (by kernel_rfl) wide_orders (by kernel_rfl) fun w38 hw38 B39 hS K11 hK11 => ?_
    have zw38 : w38.heap.size = w36.heap.size := by rw [hw38]
    have sB39 := B39.size
    have hB := hB.trans (B39.mono hB.size)
    have m5 := m5.old B39
    have m6 := m6.old B39
    have m7 := m7.old B39
    have hct := hct.below B39
    have hcu := hcu.below B39
    have hcX := hcX.below B39
    have hcN := hcN.below B39
    have m5_d := m5
    have m6_d := m6
    have hct_d := hct
    have hcu_d := hcu
    have hcX_d := hcX
    have m7_d := m7
    have hcN_d := hcN
    have hB_d := hB
    refine d_two 0 3 (by kernel_rfl) ?_ ?_
    · refine d_op 0 (some 24) (Go.Op.call (Go.Call.mk (Go.Callee.value (Go.Operand.func 33)) #[(Go.Operand.const (Go.Value.int Go.IntKind.i64 0))] #[3])) (by kernel_rfl) fun ty pos af => ?_
      refine s_callR (R := fun v w' => ∃ y, v = tv y ∧ RC w' (fun _ => False) (.var 0 0) y) [_] hF (enters_of Try.func33 (by kernel_rfl) rfl) rfl (by decide) (rVar46 0 w38 (by unfold in64; decide)) ?_
      rintro _ w40 a ⟨y24, rfl, h24⟩ B41 hF
      have sB41 := B41.size
      have hB := hB.trans (B41.mono hB.size)
      have m5 := m5.old B41
      have m6 := m6.old B41
      have m7 := m7.old B41
      have hS := hS.below B41
      have hct := hct.below B41
      have hcu := hcu.below B41
      have hcX := hcX.below B41
      have hcN := hcN.below B41
      refine s_end ⟨hS, ?_⟩
      refine d_two 1 3 (by kernel_rfl) ?_ ?_
      · refine d_op 1 (some 25) (Go.Op.call (Go.Call.mk (Go.Callee.value (Go.Operand.func 33)) #[(Go.Operand.const (Go.Value.int Go.IntKind.i64 0))] #[3])) (by kernel_rfl) fun ty pos af => ?_
        refine s_callR (R := fun v w' => ∃ y, v = tv y ∧ RC w' (fun _ => False) (.var 0 0) y) [_] hF (enters_of Try.func33 (by kernel_rfl) rfl) rfl (by decide) (rVar46 0 w40 (by unfold in64; decide)) ?_
        rintro _ w42 a ⟨y25, rfl, h25⟩ B43 hF
        have sB43 := B43.size
        have hB := hB.trans (B43.mono hB.size)
        have m5 := m5.old B43
        have m6 := m6.old B43
        have m7 := m7.old B43
        have hS := hS.below B43
        have hct := hct.below B43
        have hcu := hcu.below B43
        have hcX := hcX.below B43
        have hcN := hcN.below B43
        have h24 := h24.below B43
        refine s_end ⟨hS, ?_⟩
        refine d_two 2 3 (by kernel_rfl) ?_ ?_
        · refine d_op 2 (some 26) (Go.Op.call (Go.Call.mk (Go.Callee.value (Go.Operand.func 34)) #[(Go.Operand.tmp 24), (Go.Operand.tmp 25)] #[27, 27])) (by kernel_rfl) fun ty pos af => ?_
          refine s_callR (R := fun r w' => ∃ y, r = tv y ∧ RE w' (AS (fun k => (k ≠ b5 ∧ k ≠ b6) ∧ k < w42.heap.size) w42.heap.size) (.two 6 (CT.ess (.var 0 0)) (CT.ess (.var 0 0))) y) [_, _] hF (enters_of Try.func34 (by kernel_rfl) rfl) rfl (by decide) (App47 (fun k => (k ≠ b5 ∧ k ≠ b6) ∧ k < w42.heap.size) (.var 0 0) (.var 0 0) y24 y25 w42 (fun k hk => hk.2) (h24.mono (fun _ h => h.elim)) (h25.mono (fun _ h => h.elim))) ?_
          rintro _ w44 a ⟨yY, rfl, hqY⟩ B45 hF
          have sB45 := B45.size
          have hB := hB.trans (B45.mono hB.size)
          have m5 := m5.old B45
          have m6 := m6.old B45
          have m7 := m7.old B45
          have hS := hS.below B45
          have hct := hct.below B45
          have hcu := hcu.below B45
          have hcX := hcX.below B45
          have hcN := hcN.below B45
          have h24 := h24.below B45
          have h25 := h25.below B45
          obtain ⟨cY, hcY, heY⟩ := hqY
          have heY : cY.ess = .two 6 (.var 0) (.var 0) := heY
          have hcY : RC w44 (fun k => (k ≠ b5 ∧ k ≠ b6) ∧ k < w44.heap.size) cY yY := hcY.valid.mono (fun k hk => by rcases hk with ⟨hk | hk, hk2⟩; (· exact ⟨hk.1, hk2⟩); exact ⟨⟨by omega, by omega⟩, hk2⟩)
          refine s_end ⟨hS, ?_⟩
          refine d_one 3 (some 27) (Go.Op.load 27 (Go.Operand.tmp 6)) (by kernel_rfl) (by kernel_rfl) fun ty pos af => ?_
          refine s_val hF (x_ldW wide27 m6 rfl rfl) (by decide) fun a hF => ?_
          refine s_end ⟨hS, ?_⟩
          refine d_one 4 (some 28) (Go.Op.call (Go.Call.mk (Go.Callee.value (Go.Operand.func 30)) #[(Go.Operand.tmp 26), (Go.Operand.tmp 27)] #[27, 27])) (by kernel_rfl) (by kernel_rfl) fun ty pos af => ?_
          refine s_callR (R := fun r w' => ∃ y, r = tv y ∧ RE w' (AS (fun k => (k ≠ b5 ∧ k ≠ b6) ∧ k < w44.heap.size) w44.heap.size) (PT.inst cY.ess cu.ess) y) [_, _] hF (enters_of Try.func30 (by kernel_rfl) rfl) rfl (by decide) (rInst43 (fun k => (k ≠ b5 ∧ k ≠ b6) ∧ k < w44.heap.size) cY cu yY yu w44 (fun k hk => hk.2) (hcY.valid.mono (fun k hk => ⟨hk.1.1, hk.2⟩)) (hcu.valid.mono (fun k hk => ⟨hk.1.1, hk.2⟩)) (by rw [heY]; exact ⟨trivial, trivial⟩) (by rw [← heq]; exact hpl) w44 (Below.refl _ _)) ?_
          rintro _ w46 a ⟨yM, rfl, hqM⟩ B47 hF
          have sB47 := B47.size
          have hB := hB.trans (B47.mono hB.size)
          have m5 := m5.old B47
          have m6 := m6.old B47
          have m7 := m7.old B47
          have hS := hS.below B47
          have hct := hct.below B47
          have hcu := hcu.below B47
          have hcX := hcX.below B47
          have hcN := hcN.below B47
          have hcY := hcY.below B47
          obtain ⟨cM, hcM, heM⟩ := hqM
          rw [heY, ← heq] at heM
          have hcM : RC w46 (fun k => (k ≠ b5 ∧ k ≠ b6) ∧ k < w46.heap.size) cM yM := hcM.valid.mono (fun k hk => by rcases hk with ⟨hk | hk, hk2⟩; (· exact ⟨hk.1, hk2⟩); exact ⟨⟨by omega, by omega⟩, hk2⟩)
          refine s_end ⟨hS, ?_⟩
          refine d_one 5 none (Go.Op.store 27 (Go.Operand.tmp 6) (Go.Operand.tmp 28)) (by kernel_rfl) (by kernel_rfl) fun ty pos af => ?_
          refine s_putW hF rfl rfl (size_wide wide27) m6 rfl hcM.one fun w50 m6 o51 => ?_
          have so51 := o51.size
          have hB := hB.trans (o51.below (by omega))
          have m5 := m5.only o51 (by omega)
          have m7 := m7.only o51 (by omega)
          have hS := hS.only o51 (by omega)
          have hct := hct.only o51 (by intro h; first | exact h.1.1 rfl | exact h.1.2 rfl | (have := h.2; omega))
          have hcu := hcu.only o51 (by intro h; first | exact h.1.1 rfl | exact h.1.2 rfl | (have := h.2; omega))
          have hcX := hcX.only o51 (by intro h; first | exact h.1.1 rfl | exact h.1.2 rfl | (have := h.2; omega))
          have hcN := hcN.only o51 (by intro h; first | exact h.1.1 rfl | exact h.1.2 rfl | (have := h.2; omega))
          have hcY := hcY.only o51 (by intro h; first | exact h.1.1 rfl | exact h.1.2 rfl | (have := h.2; omega))
          have hcM := hcM.only o51 (by intro h; first | exact h.1.1 rfl | exact h.1.2 rfl | (have := h.2; omega))
          refine s_end ⟨hS, ?_⟩
          refine d_end (by kernel_rfl) (hK11 _ _ ?_)
          have heNM : cN.ess = cM.ess := by rw [heN, heM]
          have hmn := mN_same heNM
          have hplN : cN.ess.plain := by rw [heN]; exact inst_plain ⟨trivial, trivial⟩ hpl
          refine dk2_seq (w50.heap.size) (w50.heap.size) (ops := regOps Try.f6 8) (N := 11) (by kernel_rfl) wide_orders (by kernel_rfl) fun w52 hw52 B53 hS K12 hK12 => ?_
          have zw52 : w52.heap.size = w50.heap.size := by rw [hw52]
          have sB53 := B53.size
          have hB := hB.trans (B53.mono hB.size)
          have m5 := m5.old B53
          have m6 := m6.old B53
          have m7 := m7.old B53
          have hct := hct.below B53
          have hcu := hcu.below B53
          have hcX := hcX.below B53
          have hcN := hcN.below B53
          have hcY := hcY.below B53
          have hcM := hcM.below B53
          have m5_d := m5
          have m6_d := m6
          have hct_d := hct
          have hcu_d := hcu
          have hcX_d := hcX
          have m7_d := m7
          have hcN_d := hcN
          have hcY_d := hcY
          have hcM_d := hcM
          have hB_d := hB
          refine d_val 0 29 (op := (Go.Op.load 27 (Go.Operand.tmp 5))) hF hS (by kernel_rfl) (fun W hW => x_ldW wide27 (m5_d.k2 hW (by omega)) rfl rfl) (by kernel_rfl) (by decide) fun a hF => ?_
          refine d_val 2 31 (op := (Go.Op.load 27 (Go.Operand.tmp 6))) hF hS (by kernel_rfl) (fun W hW => x_ldW wide27 (m6_d.k2 hW (by omega)) rfl rfl) (by kernel_rfl) (by decide) fun a hF => ?_
          refine d_one 1 (some 30) (Go.Op.call (Go.Call.mk (Go.Callee.value (Go.Operand.func 35)) #[(Go.Operand.tmp 29)] #[27])) (by kernel_rfl) (by kernel_rfl) fun ty pos af => ?_
          refine s_callB [_] hF (enters_of Try.func35 (by kernel_rfl) rfl) rfl (by decide) (Size33 cN yN w52 (hcN.valid.mono (fun k hk => hk.2))) fun w54 a B55 hF => ?_
          have sB55 := B55.size
          have hB := hB.trans (B55.mono hB.size)
          have m5 := m5.old B55
          have m6 := m6.old B55
          have m7 := m7.old B55
          have hS := hS.below B55
          have hct := hct.below B55
          have hcu := hcu.below B55
          have hcX := hcX.below B55
          have hcN := hcN.below B55
          have hcY := hcY.below B55
          have hcM := hcM.below B55
          refine s_end ⟨hS, ?_⟩
          refine d_one 3 (some 32) (Go.Op.call (Go.Call.mk (Go.Callee.value (Go.Operand.func 22)) #[(Go.Operand.tmp 31)] #[27])) (by kernel_rfl) (by kernel_rfl) fun ty pos af => ?_
          refine s_callB [_] hF (enters_of Try.func22 (by kernel_rfl) rfl) rfl (by decide) ((Size26 cM yM w54 (hcM.valid.mono (fun k hk => hk.2))).mono fun e w' h => ⟨by rw [h.1, ← hmn], h.2⟩) fun w56 a B57 hF => ?_
          have sB57 := B57.size
          have hB := hB.trans (B57.mono hB.size)
          have m5 := m5.old B57
          have m6 := m6.old B57
          have m7 := m7.old B57
          have hS := hS.below B57
          have hct := hct.below B57
          have hcu := hcu.below B57
          have hcX := hcX.below B57
          have hcN := hcN.below B57
          have hcY := hcY.below B57
          have hcM := hcM.below B57
          refine s_end ⟨hS, ?_⟩
          refine d_val 4 33 (op := (Go.Op.binOp Go.BinOp.neq 3 (Go.Operand.tmp 30) (Go.Operand.tmp 32) 3)) hF hS (by kernel_rfl) (fun W hW => x_neq (b := false) (decide_eq_false (fun h => h rfl)) rfl rfl) (by kernel_rfl) (by decide) fun a hF => ?_
          refine d_val 5 34 (op := (Go.Op.move (Go.Operand.tmp 33))) hF hS (by kernel_rfl) (fun W hW => x_move rfl) (by kernel_rfl) (by decide) fun a hF => ?_
          refine d_valg 6 35 34 (j := 5) (want := false) (op := (Go.Op.load 27 (Go.Operand.tmp 5))) hF hS (by kernel_rfl) (by kernel_rfl) rfl (fun W hW => x_ldW wide27 (m5_d.k2 hW (by omega)) rfl rfl) (by kernel_rfl) (by decide) fun a hF => ?_
          refine d_valg 7 36 34 (j := 5) (want := false) (op := (Go.Op.load 27 (Go.Operand.tmp 6))) hF hS (by kernel_rfl) (by kernel_rfl) rfl (fun W hW => x_ldW wide27 (m6_d.k2 hW (by omega)) rfl rfl) (by kernel_rfl) (by decide) fun a hF => ?_
          refine d_oneg 8 34 (some 37) (Go.Op.call (Go.Call.mk (Go.Callee.value (Go.Operand.func 19)) #[(Go.Operand.tmp 35), (Go.Operand.tmp 36)] #[27, 27])) (j := 5) (want := false) hF (by kernel_rfl) (by kernel_rfl) (by kernel_rfl) rfl fun ty pos af => ?_
          refine s_callB [_, _] hF (enters_of Try.func19 (by kernel_rfl) rfl) rfl (by decide) (alike23 cN cM yN yM w56 (hcN.valid.mono (fun k hk => hk.2)) (hcM.valid.mono (fun k hk => hk.2)) heNM hplN) fun w58 a B59 hF => ?_
          have sB59 := B59.size
          have hB := hB.trans (B59.mono hB.size)
          have m5 := m5.old B59
          have m6 := m6.old B59
          have m7 := m7.old B59
          have hS := hS.below B59
          have hct := hct.below B59
          have hcu := hcu.below B59
          have hcX := hcX.below B59
          have hcN := hcN.below B59
          have hcY := hcY.below B59
          have hcM := hcM.below B59
          refine s_end ⟨hS, ?_⟩
          refine d_valg 9 38 34 (j := 5) (want := false) (op := (Go.Op.unOp Go.UnOp.not 4 (Go.Operand.tmp 37))) hF hS (by kernel_rfl) (by kernel_rfl) rfl (fun W hW => x_not rfl) (by kernel_rfl) (by decide) fun a hF => ?_
          refine d_val 10 39 (op := (Go.Op.pick (Go.Operand.tmp 34) (Go.Operand.const (Go.Value.bool true)) (Go.Operand.tmp 38))) hF hS (by kernel_rfl) (fun W hW => x_pick (b := false) rfl rfl) (by kernel_rfl) (by decide) fun a hF => ?_
          refine d_end (by kernel_rfl) (hK12 _ _ ?_)
          refine wp_if hF rfl ?_
          refine wp_skip (hK8 _ _ ?_)
          refine wp_region_lit ?_
          refine s_val hF (x_addn (i + 1) (by omega) (by omega) rfl rfl) (by decide) fun a hF => ?_
          refine s_val hF (x_move rfl) (by decide) fun a hF => ?_
          refine s_end (hK' _ _ (by omega) ⟨cN, cM, yN, yM, heNM, hplN, hcN.mono (fun k hk => hk.1), hcM.mono (fun k hk => hk.1), m5, m6, hB, hF.sub _ rfl⟩)
        · refine d_op 3 (some 27) (Go.Op.load 27 (Go.Operand.tmp 6)) (by kernel_rfl) fun ty pos af => ?_
          refine s_val hF (x_ldW wide27 m6 rfl rfl) (by decide) fun a hF => ?_
          refine s_end ⟨hS, ?_⟩
          refine d_one 2 (some 26) (Go.Op.call (Go.Call.mk (Go.Callee.value (Go.Operand.func 34)) #[(Go.Operand.tmp 24), (Go.Operand.tmp 25)] #[27, 27])) (by kernel_rfl) (by kernel_rfl) fun ty pos af => ?_
          refine s_callR (R := fun r w' => ∃ y, r = tv y ∧ RE w' (AS (fun k => (k ≠ b5 ∧ k ≠ b6) ∧ k < w42.heap.size) w42.heap.size) (.two 6 (CT.ess (.var 0 0)) (CT.ess (.var 0 0))) y) [_, _] hF (enters_of Try.func34 (by kernel_rfl) rfl) rfl (by decide) (App47 (fun k => (k ≠ b5 ∧ k ≠ b6) ∧ k < w42.heap.size) (.var 0 0) (.var 0 0) y24 y25 w42 (fun k hk => hk.2) (h24.mono (fun _ h => h.elim)) (h25.mono (fun _ h => h.elim))) ?_
          rintro _ w60 a ⟨yY, rfl, hqY⟩ B61 hF
          have sB61 := B61.size
          have hB := hB.trans (B61.mono hB.size)
          have m5 := m5.old B61
          have m6 := m6.old B61
          have m7 := m7.old B61
          have hS := hS.below B61
          have hct := hct.below B61
          have hcu := hcu.below B61
          have hcX := hcX.below B61
          have hcN := hcN.below B61
          have h24 := h24.below B61
          have h25 := h25.below B61
          obtain ⟨cY, hcY, heY⟩ := hqY
          have heY : cY.ess = .two 6 (.var 0) (.var 0) := heY
          have hcY : RC w60 (fun k => (k ≠ b5 ∧ k ≠ b6) ∧ k < w60.heap.size) cY yY := hcY.valid.mono (fun k hk => by rcases hk with ⟨hk | hk, hk2⟩; (· exact ⟨hk.1, hk2⟩); exact ⟨⟨by omega, by omega⟩, hk2⟩)
          refine s_end ⟨hS, ?_⟩
          refine d_one 4 (some 28) (Go.Op.call (Go.Call.mk (Go.Callee.value (Go.Operand.func 30)) #[(Go.Operand.tmp 26), (Go.Operand.tmp 27)] #[27, 27])) (by kernel_rfl) (by kernel_rfl) fun ty pos af => ?_
          refine s_callR (R := fun r w' => ∃ y, r = tv y ∧ RE w' (AS (fun k => (k ≠ b5 ∧ k ≠ b6) ∧ k < w60.heap.size) w60.heap.size) (PT.inst cY.ess cu.ess) y) [_, _] hF (enters_of Try.func30 (by kernel_rfl) rfl) rfl (by decide) (rInst43 (fun k => (k ≠ b5 ∧ k ≠ b6) ∧ k < w60.heap.size) cY cu yY yu w60 (fun k hk => hk.2) (hcY.valid.mono (fun k hk => ⟨hk.1.1, hk.2⟩)) (hcu.valid.mono (fun k hk => ⟨hk.1.1, hk.2⟩)) (by rw [heY]; exact ⟨trivial, trivial⟩) (by rw [← heq]; exact hpl) w60 (Below.refl _ _)) ?_
          rintro _ w62 a ⟨yM, rfl, hqM⟩ B63 hF
          have sB63 := B63.size
          have hB := hB.trans (B63.mono hB.size)
          have m5 := m5.old B63
          have m6 := m6.old B63
          have m7 := m7.old B63
          have hS := hS.below B63
          have hct := hct.below B63
          have hcu := hcu.below B63
          have hcX := hcX.below B63
          have hcN := hcN.below B63
          have hcY := hcY.below B63
          obtain ⟨cM, hcM, heM⟩ := hqM
          rw [heY, ← heq] at heM
          have hcM : RC w62 (fun k => (k ≠ b5 ∧ k ≠ b6) ∧ k < w62.heap.size) cM yM := hcM.valid.mono (fun k hk => by rcases hk with ⟨hk | hk, hk2⟩; (· exact ⟨hk.1, hk2⟩); exact ⟨⟨by omega, by omega⟩, hk2⟩)
          refine s_end ⟨hS, ?_⟩
          refine d_one 5 none (Go.Op.store 27 (Go.Operand.tmp 6) (Go.Operand.tmp 28)) (by kernel_rfl) (by kernel_rfl) fun ty pos af => ?_
          refine s_putW hF rfl rfl (size_wide wide27) m6 rfl hcM.one fun w66 m6 o67 => ?_
          have so67 := o67.size
          have hB := hB.trans (o67.below (by omega))
          have m5 := m5.only o67 (by omega)
          have m7 := m7.only o67 (by omega)
          have hS := hS.only o67 (by omega)
          have hct := hct.only o67 (by intro h; first | exact h.1.1 rfl | exact h.1.2 rfl | (have := h.2; omega))
          have hcu := hcu.only o67 (by intro h; first | exact h.1.1 rfl | exact h.1.2 rfl | (have := h.2; omega))
          have hcX := hcX.only o67 (by intro h; first | exact h.1.1 rfl | exact h.1.2 rfl | (have := h.2; omega))
          have hcN := hcN.only o67 (by intro h; first | exact h.1.1 rfl | exact h.1.2 rfl | (have := h.2; omega))
          have hcY := hcY.only o67 (by intro h; first | exact h.1.1 rfl | exact h.1.2 rfl | (have := h.2; omega))
          have hcM := hcM.only o67 (by intro h; first | exact h.1.1 rfl | exact h.1.2 rfl | (have := h.2; omega))
          refine s_end ⟨hS, ?_⟩
          refine d_end (by kernel_rfl) (hK11 _ _ ?_)
          have heNM : cN.ess = cM.ess := by rw [heN, heM]
          have hmn := mN_same heNM
          have hplN : cN.ess.plain := by rw [heN]; exact inst_plain ⟨trivial, trivial⟩ hpl
          refine dk2_seq (w66.heap.size) (w66.heap.size) (ops := regOps Try.f6 8) (N := 11) (by kernel_rfl) wide_orders (by kernel_rfl) fun w68 hw68 B69 hS K13 hK13 => ?_
          have zw68 : w68.heap.size = w66.heap.size := by rw [hw68]
          have sB69 := B69.size
          have hB := hB.trans (B69.mono hB.size)
          have m5 := m5.old B69
          have m6 := m6.old B69
          have m7 := m7.old B69
          have hct := hct.below B69
          have hcu := hcu.below B69
          have hcX := hcX.below B69
          have hcN := hcN.below B69
          have hcY := hcY.below B69
          have hcM := hcM.below B69
          have m5_d := m5
          have m6_d := m6
          have hct_d := hct
          have hcu_d := hcu
          have hcX_d := hcX
          have m7_d := m7
          have hcN_d := hcN
          have hcY_d := hcY
          have hcM_d := hcM
          have hB_d := hB
          refine d_val 0 29 (op := (Go.Op.load 27 (Go.Operand.tmp 5))) hF hS (by kernel_rfl) (fun W hW => x_ldW wide27 (m5_d.k2 hW (by omega)) rfl rfl) (by kernel_rfl) (by decide) fun a hF => ?_
          refine d_val 2 31 (op := (Go.Op.load 27 (Go.Operand.tmp 6))) hF hS (by kernel_rfl) (fun W hW => x_ldW wide27 (m6_d.k2 hW (by omega)) rfl rfl) (by kernel_rfl) (by decide) fun a hF => ?_
          refine d_one 1 (some 30) (Go.Op.call (Go.Call.mk (Go.Callee.value (Go.Operand.func 35)) #[(Go.Operand.tmp 29)] #[27])) (by kernel_rfl) (by kernel_rfl) fun ty pos af => ?_
          refine s_callB [_] hF (enters_of Try.func35 (by kernel_rfl) rfl) rfl (by decide) (Size33 cN yN w68 (hcN.valid.mono (fun k hk => hk.2))) fun w70 a B71 hF => ?_
          have sB71 := B71.size
          have hB := hB.trans (B71.mono hB.size)
          have m5 := m5.old B71
          have m6 := m6.old B71
          have m7 := m7.old B71
          have hS := hS.below B71
          have hct := hct.below B71
          have hcu := hcu.below B71
          have hcX := hcX.below B71
          have hcN := hcN.below B71
          have hcY := hcY.below B71
          have hcM := hcM.below B71
          refine s_end ⟨hS, ?_⟩
          refine d_one 3 (some 32) (Go.Op.call (Go.Call.mk (Go.Callee.value (Go.Operand.func 22)) #[(Go.Operand.tmp 31)] #[27])) (by kernel_rfl) (by kernel_rfl) fun ty pos af => ?_
          refine s_callB [_] hF (enters_of Try.func22 (by kernel_rfl) rfl) rfl (by decide) ((Size26 cM yM w70 (hcM.valid.mono (fun k hk => hk.2))).mono fun e w' h => ⟨by rw [h.1, ← hmn], h.2⟩) fun w72 a B73 hF => ?_
          have sB73 := B73.size
          have hB := hB.trans (B73.mono hB.size)
          have m5 := m5.old B73
          have m6 := m6.old B73
          have m7 := m7.old B73
          have hS := hS.below B73
          have hct := hct.below B73
          have hcu := hcu.below B73
          have hcX := hcX.below B73
          have hcN := hcN.below B73
          have hcY := hcY.below B73
          have hcM := hcM.below B73
          refine s_end ⟨hS, ?_⟩
          refine d_val 4 33 (op := (Go.Op.binOp Go.BinOp.neq 3 (Go.Operand.tmp 30) (Go.Operand.tmp 32) 3)) hF hS (by kernel_rfl) (fun W hW => x_neq (b := false) (decide_eq_false (fun h => h rfl)) rfl rfl) (by kernel_rfl) (by decide) fun a hF => ?_
          refine d_val 5 34 (op := (Go.Op.move (Go.Operand.tmp 33))) hF hS (by kernel_rfl) (fun W hW => x_move rfl) (by kernel_rfl) (by decide) fun a hF => ?_
          refine d_valg 6 35 34 (j := 5) (want := false) (op := (Go.Op.load 27 (Go.Operand.tmp 5))) hF hS (by kernel_rfl) (by kernel_rfl) rfl (fun W hW => x_ldW wide27 (m5_d.k2 hW (by omega)) rfl rfl) (by kernel_rfl) (by decide) fun a hF => ?_
          refine d_valg 7 36 34 (j := 5) (want := false) (op := (Go.Op.load 27 (Go.Operand.tmp 6))) hF hS (by kernel_rfl) (by kernel_rfl) rfl (fun W hW => x_ldW wide27 (m6_d.k2 hW (by omega)) rfl rfl) (by kernel_rfl) (by decide) fun a hF => ?_
          refine d_oneg 8 34 (some 37) (Go.Op.call (Go.Call.mk (Go.Callee.value (Go.Operand.func 19)) #[(Go.Operand.tmp 35), (Go.Operand.tmp 36)] #[27, 27])) (j := 5) (want := false) hF (by kernel_rfl) (by kernel_rfl) (by kernel_rfl) rfl fun ty pos af => ?_
          refine s_callB [_, _] hF (enters_of Try.func19 (by kernel_rfl) rfl) rfl (by decide) (alike23 cN cM yN yM w72 (hcN.valid.mono (fun k hk => hk.2)) (hcM.valid.mono (fun k hk => hk.2)) heNM hplN) fun w74 a B75 hF => ?_
          have sB75 := B75.size
          have hB := hB.trans (B75.mono hB.size)
          have m5 := m5.old B75
          have m6 := m6.old B75
          have m7 := m7.old B75
          have hS := hS.below B75
          have hct := hct.below B75
          have hcu := hcu.below B75
          have hcX := hcX.below B75
          have hcN := hcN.below B75
          have hcY := hcY.below B75
          have hcM := hcM.below B75
          refine s_end ⟨hS, ?_⟩
          refine d_valg 9 38 34 (j := 5) (want := false) (op := (Go.Op.unOp Go.UnOp.not 4 (Go.Operand.tmp 37))) hF hS (by kernel_rfl) (by kernel_rfl) rfl (fun W hW => x_not rfl) (by kernel_rfl) (by decide) fun a hF => ?_
          refine d_val 10 39 (op := (Go.Op.pick (Go.Operand.tmp 34) (Go.Operand.const (Go.Value.bool true)) (Go.Operand.tmp 38))) hF hS (by kernel_rfl) (fun W hW => x_pick (b := false) rfl rfl) (by kernel_rfl) (by decide) fun a hF => ?_
          refine d_end (by kernel_rfl) (hK13 _ _ ?_)
          refine wp_if hF rfl ?_
          refine wp_skip (hK8 _ _ ?_)
          refine wp_region_lit ?_
          refine s_val hF (x_addn (i + 1) (by omega) (by omega) rfl rfl) (by decide) fun a hF => ?_
          refine s_val hF (x_move rfl) (by decide) fun a hF => ?_
          refine s_end (hK' _ _ (by omega) ⟨cN, cM, yN, yM, heNM, hplN, hcN.mono (fun k hk => hk.1), hcM.mono (fun k hk => hk.1), m5, m6, hB, hF.sub _ rfl⟩)
      · refine d_op 3 (some 27) (Go.Op.load 27 (Go.Operand.tmp 6)) (by kernel_rfl) fun ty pos af => ?_
        refine s_val hF (x_ldW wide27 m6 rfl rfl) (by decide) fun a hF => ?_
        refine s_end ⟨hS, ?_⟩
        refine d_one 1 (some 25) (Go.Op.call (Go.Call.mk (Go.Callee.value (Go.Operand.func 33)) #[(Go.Operand.const (Go.Value.int Go.IntKind.i64 0))] #[3])) (by kernel_rfl) (by kernel_rfl) fun ty pos af => ?_
        refine s_callR (R := fun v w' => ∃ y, v = tv y ∧ RC w' (fun _ => False) (.var 0 0) y) [_] hF (enters_of Try.func33 (by kernel_rfl) rfl) rfl (by decide) (rVar46 0 w40 (by unfold in64; decide)) ?_
        rintro _ w76 a ⟨y25, rfl, h25⟩ B77 hF
        have sB77 := B77.size
        have hB := hB.trans (B77.mono hB.size)
        have m5 := m5.old B77
        have m6 := m6.old B77
        have m7 := m7.old B77
        have hS := hS.below B77
        have hct := hct.below B77
        have hcu := hcu.below B77
        have hcX := hcX.below B77
        have hcN := hcN.below B77
        have h24 := h24.below B77
        refine s_end ⟨hS, ?_⟩
        refine d_one 2 (some 26) (Go.Op.call (Go.Call.mk (Go.Callee.value (Go.Operand.func 34)) #[(Go.Operand.tmp 24), (Go.Operand.tmp 25)] #[27, 27])) (by kernel_rfl) (by kernel_rfl) fun ty pos af => ?_
        refine s_callR (R := fun r w' => ∃ y, r = tv y ∧ RE w' (AS (fun k => (k ≠ b5 ∧ k ≠ b6) ∧ k < w76.heap.size) w76.heap.size) (.two 6 (CT.ess (.var 0 0)) (CT.ess (.var 0 0))) y) [_, _] hF (enters_of Try.func34 (by kernel_rfl) rfl) rfl (by decide) (App47 (fun k => (k ≠ b5 ∧ k ≠ b6) ∧ k < w76.heap.size) (.var 0 0) (.var 0 0) y24 y25 w76 (fun k hk => hk.2) (h24.mono (fun _ h => h.elim)) (h25.mono (fun _ h => h.elim))) ?_
        rintro _ w78 a ⟨yY, rfl, hqY⟩ B79 hF
        have sB79 := B79.size
        have hB := hB.trans (B79.mono hB.size)
        have m5 := m5.old B79
        have m6 := m6.old B79
        have m7 := m7.old B79
        have hS := hS.below B79
        have hct := hct.below B79
        have hcu := hcu.below B79
        have hcX := hcX.below B79
        have hcN := hcN.below B79
        have h24 := h24.below B79
        have h25 := h25.below B79
        obtain ⟨cY, hcY, heY⟩ := hqY
        have heY : cY.ess = .two 6 (.var 0) (.var 0) := heY
        have hcY : RC w78 (fun k => (k ≠ b5 ∧ k ≠ b6) ∧ k < w78.heap.size) cY yY := hcY.valid.mono (fun k hk => by rcases hk with ⟨hk | hk, hk2⟩; (· exact ⟨hk.1, hk2⟩); exact ⟨⟨by omega, by omega⟩, hk2⟩)
        refine s_end ⟨hS, ?_⟩
        refine d_one 4 (some 28) (Go.Op.call (Go.Call.mk (Go.Callee.value (Go.Operand.func 30)) #[(Go.Operand.tmp 26), (Go.Operand.tmp 27)] #[27, 27])) (by kernel_rfl) (by kernel_rfl) fun ty pos af => ?_
        refine s_callR (R := fun r w' => ∃ y, r = tv y ∧ RE w' (AS (fun k => (k ≠ b5 ∧ k ≠ b6) ∧ k < w78.heap.size) w78.heap.size) (PT.inst cY.ess cu.ess) y) [_, _] hF (enters_of Try.func30 (by kernel_rfl) rfl) rfl (by decide) (rInst43 (fun k => (k ≠ b5 ∧ k ≠ b6) ∧ k < w78.heap.size) cY cu yY yu w78 (fun k hk => hk.2) (hcY.valid.mono (fun k hk => ⟨hk.1.1, hk.2⟩)) (hcu.valid.mono (fun k hk => ⟨hk.1.1, hk.2⟩)) (by rw [heY]; exact ⟨trivial, trivial⟩) (by rw [← heq]; exact hpl) w78 (Below.refl _ _)) ?_
        rintro _ w80 a ⟨yM, rfl, hqM⟩ B81 hF
        have sB81 := B81.size
        have hB := hB.trans (B81.mono hB.size)
        have m5 := m5.old B81
        have m6 := m6.old B81
        have m7 := m7.old B81
        have hS := hS.below B81
        have hct := hct.below B81
        have hcu := hcu.below B81
        have hcX := hcX.below B81
        have hcN := hcN.below B81
        have hcY := hcY.below B81
        obtain ⟨cM, hcM, heM⟩ := hqM
        rw [heY, ← heq] at heM
        have hcM : RC w80 (fun k => (k ≠ b5 ∧ k ≠ b6) ∧ k < w80.heap.size) cM yM := hcM.valid.mono (fun k hk => by rcases hk with ⟨hk | hk, hk2⟩; (· exact ⟨hk.1, hk2⟩); exact ⟨⟨by omega, by omega⟩, hk2⟩)
        refine s_end ⟨hS, ?_⟩
        refine d_one 5 none (Go.Op.store 27 (Go.Operand.tmp 6) (Go.Operand.tmp 28)) (by kernel_rfl) (by kernel_rfl) fun ty pos af => ?_
        refine s_putW hF rfl rfl (size_wide wide27) m6 rfl hcM.one fun w84 m6 o85 => ?_
        have so85 := o85.size
        have hB := hB.trans (o85.below (by omega))
        have m5 := m5.only o85 (by omega)
        have m7 := m7.only o85 (by omega)
        have hS := hS.only o85 (by omega)
        have hct := hct.only o85 (by intro h; first | exact h.1.1 rfl | exact h.1.2 rfl | (have := h.2; omega))
        have hcu := hcu.only o85 (by intro h; first | exact h.1.1 rfl | exact h.1.2 rfl | (have := h.2; omega))
        have hcX := hcX.only o85 (by intro h; first | exact h.1.1 rfl | exact h.1.2 rfl | (have := h.2; omega))
        have hcN := hcN.only o85 (by intro h; first | exact h.1.1 rfl | exact h.1.2 rfl | (have := h.2; omega))
        have hcY := hcY.only o85 (by intro h; first | exact h.1.1 rfl | exact h.1.2 rfl | (have := h.2; omega))
        have hcM := hcM.only o85 (by intro h; first | exact h.1.1 rfl | exact h.1.2 rfl | (have := h.2; omega))
        refine s_end ⟨hS, ?_⟩
        refine d_end (by kernel_rfl) (hK11 _ _ ?_)
        have heNM : cN.ess = cM.ess := by rw [heN, heM]
        have hmn := mN_same heNM
        have hplN : cN.ess.plain := by rw [heN]; exact inst_plain ⟨trivial, trivial⟩ hpl
        refine dk2_seq (w84.heap.size) (w84.heap.size) (ops := regOps Try.f6 8) (N := 11) (by kernel_rfl) wide_orders (by kernel_rfl) fun w86 hw86 B87 hS K14 hK14 => ?_
        have zw86 : w86.heap.size = w84.heap.size := by rw [hw86]
        have sB87 := B87.size
        have hB := hB.trans (B87.mono hB.size)
        have m5 := m5.old B87
        have m6 := m6.old B87
        have m7 := m7.old B87
        have hct := hct.below B87
        have hcu := hcu.below B87
        have hcX := hcX.below B87
        have hcN := hcN.below B87
        have hcY := hcY.below B87
        have hcM := hcM.below B87
        have m5_d := m5
        have m6_d := m6
        have hct_d := hct
        have hcu_d := hcu
        have hcX_d := hcX
        have m7_d := m7
        have hcN_d := hcN
        have hcY_d := hcY
        have hcM_d := hcM
        have hB_d := hB
        refine d_val 0 29 (op := (Go.Op.load 27 (Go.Operand.tmp 5))) hF hS (by kernel_rfl) (fun W hW => x_ldW wide27 (m5_d.k2 hW (by omega)) rfl rfl) (by kernel_rfl) (by decide) fun a hF => ?_
        refine d_val 2 31 (op := (Go.Op.load 27 (Go.Operand.tmp 6))) hF hS (by kernel_rfl) (fun W hW => x_ldW wide27 (m6_d.k2 hW (by omega)) rfl rfl) (by kernel_rfl) (by decide) fun a hF => ?_
        refine d_one 1 (some 30) (Go.Op.call (Go.Call.mk (Go.Callee.value (Go.Operand.func 35)) #[(Go.Operand.tmp 29)] #[27])) (by kernel_rfl) (by kernel_rfl) fun ty pos af => ?_
        refine s_callB [_] hF (enters_of Try.func35 (by kernel_rfl) rfl) rfl (by decide) (Size33 cN yN w86 (hcN.valid.mono (fun k hk => hk.2))) fun w88 a B89 hF => ?_
        have sB89 := B89.size
        have hB := hB.trans (B89.mono hB.size)
        have m5 := m5.old B89
        have m6 := m6.old B89
        have m7 := m7.old B89
        have hS := hS.below B89
        have hct := hct.below B89
        have hcu := hcu.below B89
        have hcX := hcX.below B89
        have hcN := hcN.below B89
        have hcY := hcY.below B89
        have hcM := hcM.below B89
        refine s_end ⟨hS, ?_⟩
        refine d_one 3 (some 32) (Go.Op.call (Go.Call.mk (Go.Callee.value (Go.Operand.func 22)) #[(Go.Operand.tmp 31)] #[27])) (by kernel_rfl) (by kernel_rfl) fun ty pos af => ?_
        refine s_callB [_] hF (enters_of Try.func22 (by kernel_rfl) rfl) rfl (by decide) ((Size26 cM yM w88 (hcM.valid.mono (fun k hk => hk.2))).mono fun e w' h => ⟨by rw [h.1, ← hmn], h.2⟩) fun w90 a B91 hF => ?_
        have sB91 := B91.size
        have hB := hB.trans (B91.mono hB.size)
        have m5 := m5.old B91
        have m6 := m6.old B91
        have m7 := m7.old B91
        have hS := hS.below B91
        have hct := hct.below B91
        have hcu := hcu.below B91
        have hcX := hcX.below B91
        have hcN := hcN.below B91
        have hcY := hcY.below B91
        have hcM := hcM.below B91
        refine s_end ⟨hS, ?_⟩
        refine d_val 4 33 (op := (Go.Op.binOp Go.BinOp.neq 3 (Go.Operand.tmp 30) (Go.Operand.tmp 32) 3)) hF hS (by kernel_rfl) (fun W hW => x_neq (b := false) (decide_eq_false (fun h => h rfl)) rfl rfl) (by kernel_rfl) (by decide) fun a hF => ?_
        refine d_val 5 34 (op := (Go.Op.move (Go.Operand.tmp 33))) hF hS (by kernel_rfl) (fun W hW => x_move rfl) (by kernel_rfl) (by decide) fun a hF => ?_
        refine d_valg 6 35 34 (j := 5) (want := false) (op := (Go.Op.load 27 (Go.Operand.tmp 5))) hF hS (by kernel_rfl) (by kernel_rfl) rfl (fun W hW => x_ldW wide27 (m5_d.k2 hW (by omega)) rfl rfl) (by kernel_rfl) (by decide) fun a hF => ?_
        refine d_valg 7 36 34 (j := 5) (want := false) (op := (Go.Op.load 27 (Go.Operand.tmp 6))) hF hS (by kernel_rfl) (by kernel_rfl) rfl (fun W hW => x_ldW wide27 (m6_d.k2 hW (by omega)) rfl rfl) (by kernel_rfl) (by decide) fun a hF => ?_
        refine d_oneg 8 34 (some 37) (Go.Op.call (Go.Call.mk (Go.Callee.value (Go.Operand.func 19)) #[(Go.Operand.tmp 35), (Go.Operand.tmp 36)] #[27, 27])) (j := 5) (want := false) hF (by kernel_rfl) (by kernel_rfl) (by kernel_rfl) rfl fun ty pos af => ?_
        refine s_callB [_, _] hF (enters_of Try.func19 (by kernel_rfl) rfl) rfl (by decide) (alike23 cN cM yN yM w90 (hcN.valid.mono (fun k hk => hk.2)) (hcM.valid.mono (fun k hk => hk.2)) heNM hplN) fun w92 a B93 hF => ?_
        have sB93 := B93.size
        have hB := hB.trans (B93.mono hB.size)
        have m5 := m5.old B93
        have m6 := m6.old B93
        have m7 := m7.old B93
        have hS := hS.below B93
        have hct := hct.below B93
        have hcu := hcu.below B93
        have hcX := hcX.below B93
        have hcN := hcN.below B93
        have hcY := hcY.below B93
        have hcM := hcM.below B93
        refine s_end ⟨hS, ?_⟩
        refine d_valg 9 38 34 (j := 5) (want := false) (op := (Go.Op.unOp Go.UnOp.not 4 (Go.Operand.tmp 37))) hF hS (by kernel_rfl) (by kernel_rfl) rfl (fun W hW => x_not rfl) (by kernel_rfl) (by decide) fun a hF => ?_
        refine d_val 10 39 (op := (Go.Op.pick (Go.Operand.tmp 34) (Go.Operand.const (Go.Value.bool true)) (Go.Operand.tmp 38))) hF hS (by kernel_rfl) (fun W hW => x_pick (b := false) rfl rfl) (by kernel_rfl) (by decide) fun a hF => ?_
        refine d_end (by kernel_rfl) (hK14 _ _ ?_)
        refine wp_if hF rfl ?_
        refine wp_skip (hK8 _ _ ?_)
        refine wp_region_lit ?_
        refine s_val hF (x_addn (i + 1) (by omega) (by omega) rfl rfl) (by decide) fun a hF => ?_
        refine s_val hF (x_move rfl) (by decide) fun a hF => ?_
        refine s_end (hK' _ _ (by omega) ⟨cN, cM, yN, yM, heNM, hplN, hcN.mono (fun k hk => hk.1), hcM.mono (fun k hk => hk.1), m5, m6, hB, hF.sub _ rfl⟩)
    · refine d_op 3 (some 27) (Go.Op.load 27 (Go.Operand.tmp 6)) (by kernel_rfl) fun ty pos af => ?_
      refine s_val hF (x_ldW wide27 m6 rfl rfl) (by decide) fun a hF => ?_
      refine s_end ⟨hS, ?_⟩
      refine d_one 0 (some 24) (Go.Op.call (Go.Call.mk (Go.Callee.value (Go.Operand.func 33)) #[(Go.Operand.const (Go.Value.int Go.IntKind.i64 0))] #[3])) (by kernel_rfl) (by kernel_rfl) fun ty pos af => ?_
      refine s_callR (R := fun v w' => ∃ y, v = tv y ∧ RC w' (fun _ => False) (.var 0 0) y) [_] hF (enters_of Try.func33 (by kernel_rfl) rfl) rfl (by decide) (rVar46 0 w38 (by unfold in64; decide)) ?_
      rintro _ w94 a ⟨y24, rfl, h24⟩ B95 hF
      have sB95 := B95.size
      have hB := hB.trans (B95.mono hB.size)
      have m5 := m5.old B95
      have m6 := m6.old B95
      have m7 := m7.old B95
      have hS := hS.below B95
      have hct := hct.below B95
      have hcu := hcu.below B95
      have hcX := hcX.below B95
      have hcN := hcN.below B95
      refine s_end ⟨hS, ?_⟩
      refine d_one 1 (some 25) (Go.Op.call (Go.Call.mk (Go.Callee.value (Go.Operand.func 33)) #[(Go.Operand.const (Go.Value.int Go.IntKind.i64 0))] #[3])) (by kernel_rfl) (by kernel_rfl) fun ty pos af => ?_
      refine s_callR (R := fun v w' => ∃ y, v = tv y ∧ RC w' (fun _ => False) (.var 0 0) y) [_] hF (enters_of Try.func33 (by kernel_rfl) rfl) rfl (by decide) (rVar46 0 w94 (by unfold in64; decide)) ?_
      rintro _ w96 a ⟨y25, rfl, h25⟩ B97 hF
      have sB97 := B97.size
      have hB := hB.trans (B97.mono hB.size)
      have m5 := m5.old B97
      have m6 := m6.old B97
      have m7 := m7.old B97
      have hS := hS.below B97
      have hct := hct.below B97
      have hcu := hcu.below B97
      have hcX := hcX.below B97
      have hcN := hcN.below B97
      have h24 := h24.below B97
      refine s_end ⟨hS, ?_⟩
      refine d_one 2 (some 26) (Go.Op.call (Go.Call.mk (Go.Callee.value (Go.Operand.func 34)) #[(Go.Operand.tmp 24), (Go.Operand.tmp 25)] #[27, 27])) (by kernel_rfl) (by kernel_rfl) fun ty pos af => ?_
      refine s_callR (R := fun r w' => ∃ y, r = tv y ∧ RE w' (AS (fun k => (k ≠ b5 ∧ k ≠ b6) ∧ k < w96.heap.size) w96.heap.size) (.two 6 (CT.ess (.var 0 0)) (CT.ess (.var 0 0))) y) [_, _] hF (enters_of Try.func34 (by kernel_rfl) rfl) rfl (by decide) (App47 (fun k => (k ≠ b5 ∧ k ≠ b6) ∧ k < w96.heap.size) (.var 0 0) (.var 0 0) y24 y25 w96 (fun k hk => hk.2) (h24.mono (fun _ h => h.elim)) (h25.mono (fun _ h => h.elim))) ?_
      rintro _ w98 a ⟨yY, rfl, hqY⟩ B99 hF
      have sB99 := B99.size
      have hB := hB.trans (B99.mono hB.size)
      have m5 := m5.old B99
      have m6 := m6.old B99
      have m7 := m7.old B99
      have hS := hS.below B99
      have hct := hct.below B99
      have hcu := hcu.below B99
      have hcX := hcX.below B99
      have hcN := hcN.below B99
      have h24 := h24.below B99
      have h25 := h25.below B99
      obtain ⟨cY, hcY, heY⟩ := hqY
      have heY : cY.ess = .two 6 (.var 0) (.var 0) := heY
      have hcY : RC w98 (fun k => (k ≠ b5 ∧ k ≠ b6) ∧ k < w98.heap.size) cY yY := hcY.valid.mono (fun k hk => by rcases hk with ⟨hk | hk, hk2⟩; (· exact ⟨hk.1, hk2⟩); exact ⟨⟨by omega, by omega⟩, hk2⟩)
      refine s_end ⟨hS, ?_⟩
      refine d_one 4 (some 28) (Go.Op.call (Go.Call.mk (Go.Callee.value (Go.Operand.func 30)) #[(Go.Operand.tmp 26), (Go.Operand.tmp 27)] #[27, 27])) (by kernel_rfl) (by kernel_rfl) fun ty pos af => ?_
      refine s_callR (R := fun r w' => ∃ y, r = tv y ∧ RE w' (AS (fun k => (k ≠ b5 ∧ k ≠ b6) ∧ k < w98.heap.size) w98.heap.size) (PT.inst cY.ess cu.ess) y) [_, _] hF (enters_of Try.func30 (by kernel_rfl) rfl) rfl (by decide) (rInst43 (fun k => (k ≠ b5 ∧ k ≠ b6) ∧ k < w98.heap.size) cY cu yY yu w98 (fun k hk => hk.2) (hcY.valid.mono (fun k hk => ⟨hk.1.1, hk.2⟩)) (hcu.valid.mono (fun k hk => ⟨hk.1.1, hk.2⟩)) (by rw [heY]; exact ⟨trivial, trivial⟩) (by rw [← heq]; exact hpl) w98 (Below.refl _ _)) ?_
      rintro _ w100 a ⟨yM, rfl, hqM⟩ B101 hF
      have sB101 := B101.size
      have hB := hB.trans (B101.mono hB.size)
      have m5 := m5.old B101
      have m6 := m6.old B101
      have m7 := m7.old B101
      have hS := hS.below B101
      have hct := hct.below B101
      have hcu := hcu.below B101
      have hcX := hcX.below B101
      have hcN := hcN.below B101
      have hcY := hcY.below B101
      obtain ⟨cM, hcM, heM⟩ := hqM
      rw [heY, ← heq] at heM
      have hcM : RC w100 (fun k => (k ≠ b5 ∧ k ≠ b6) ∧ k < w100.heap.size) cM yM := hcM.valid.mono (fun k hk => by rcases hk with ⟨hk | hk, hk2⟩; (· exact ⟨hk.1, hk2⟩); exact ⟨⟨by omega, by omega⟩, hk2⟩)
      refine s_end ⟨hS, ?_⟩
      refine d_one 5 none (Go.Op.store 27 (Go.Operand.tmp 6) (Go.Operand.tmp 28)) (by kernel_rfl) (by kernel_rfl) fun ty pos af => ?_
      refine s_putW hF rfl rfl (size_wide wide27) m6 rfl hcM.one fun w104 m6 o105 => ?_
      have so105 := o105.size
      have hB := hB.trans (o105.below (by omega))
      have m5 := m5.only o105 (by omega)
      have m7 := m7.only o105 (by omega)
      have hS := hS.only o105 (by omega)
      have hct := hct.only o105 (by intro h; first | exact h.1.1 rfl | exact h.1.2 rfl | (have := h.2; omega))
      have hcu := hcu.only o105 (by intro h; first | exact h.1.1 rfl | exact h.1.2 rfl | (have := h.2; omega))
      have hcX := hcX.only o105 (by intro h; first | exact h.1.1 rfl | exact h.1.2 rfl | (have := h.2; omega))
      have hcN := hcN.only o105 (by intro h; first | exact h.1.1 rfl | exact h.1.2 rfl | (have := h.2; omega))
      have hcY := hcY.only o105 (by intro h; first | exact h.1.1 rfl | exact h.1.2 rfl | (have := h.2; omega))
      have hcM := hcM.only o105 (by intro h; first | exact h.1.1 rfl | exact h.1.2 rfl | (have := h.2; omega))
      refine s_end ⟨hS, ?_⟩
      refine d_end (by kernel_rfl) (hK11 _ _ ?_)
      have heNM : cN.ess = cM.ess := by rw [heN, heM]
      have hmn := mN_same heNM
      have hplN : cN.ess.plain := by rw [heN]; exact inst_plain ⟨trivial, trivial⟩ hpl
      refine dk2_seq (w104.heap.size) (w104.heap.size) (ops := regOps Try.f6 8) (N := 11) (by kernel_rfl) wide_orders (by kernel_rfl) fun w106 hw106 B107 hS K15 hK15 => ?_
      have zw106 : w106.heap.size = w104.heap.size := by rw [hw106]
      have sB107 := B107.size
      have hB := hB.trans (B107.mono hB.size)
      have m5 := m5.old B107
      have m6 := m6.old B107
      have m7 := m7.old B107
      have hct := hct.below B107
      have hcu := hcu.below B107
      have hcX := hcX.below B107
      have hcN := hcN.below B107
      have hcY := hcY.below B107
      have hcM := hcM.below B107
      have m5_d := m5
      have m6_d := m6
      have hct_d := hct
      have hcu_d := hcu
      have hcX_d := hcX
      have m7_d := m7
      have hcN_d := hcN
      have hcY_d := hcY
      have hcM_d := hcM
      have hB_d := hB
      refine d_val 0 29 (op := (Go.Op.load 27 (Go.Operand.tmp 5))) hF hS (by kernel_rfl) (fun W hW => x_ldW wide27 (m5_d.k2 hW (by omega)) rfl rfl) (by kernel_rfl) (by decide) fun a hF => ?_
      refine d_val 2 31 (op := (Go.Op.load 27 (Go.Operand.tmp 6))) hF hS (by kernel_rfl) (fun W hW => x_ldW wide27 (m6_d.k2 hW (by omega)) rfl rfl) (by kernel_rfl) (by decide) fun a hF => ?_
      refine d_one 1 (some 30) (Go.Op.call (Go.Call.mk (Go.Callee.value (Go.Operand.func 35)) #[(Go.Operand.tmp 29)] #[27])) (by kernel_rfl) (by kernel_rfl) fun ty pos af => ?_
      refine s_callB [_] hF (enters_of Try.func35 (by kernel_rfl) rfl) rfl (by decide) (Size33 cN yN w106 (hcN.valid.mono (fun k hk => hk.2))) fun w108 a B109 hF => ?_
      have sB109 := B109.size
      have hB := hB.trans (B109.mono hB.size)
      have m5 := m5.old B109
      have m6 := m6.old B109
      have m7 := m7.old B109
      have hS := hS.below B109
      have hct := hct.below B109
      have hcu := hcu.below B109
      have hcX := hcX.below B109
      have hcN := hcN.below B109
      have hcY := hcY.below B109
      have hcM := hcM.below B109
      refine s_end ⟨hS, ?_⟩
      refine d_one 3 (some 32) (Go.Op.call (Go.Call.mk (Go.Callee.value (Go.Operand.func 22)) #[(Go.Operand.tmp 31)] #[27])) (by kernel_rfl) (by kernel_rfl) fun ty pos af => ?_
      refine s_callB [_] hF (enters_of Try.func22 (by kernel_rfl) rfl) rfl (by decide) ((Size26 cM yM w108 (hcM.valid.mono (fun k hk => hk.2))).mono fun e w' h => ⟨by rw [h.1, ← hmn], h.2⟩) fun w110 a B111 hF => ?_
      have sB111 := B111.size
      have hB := hB.trans (B111.mono hB.size)
      have m5 := m5.old B111
      have m6 := m6.old B111
      have m7 := m7.old B111
      have hS := hS.below B111
      have hct := hct.below B111
      have hcu := hcu.below B111
      have hcX := hcX.below B111
      have hcN := hcN.below B111
      have hcY := hcY.below B111
      have hcM := hcM.below B111
      refine s_end ⟨hS, ?_⟩
      refine d_val 4 33 (op := (Go.Op.binOp Go.BinOp.neq 3 (Go.Operand.tmp 30) (Go.Operand.tmp 32) 3)) hF hS (by kernel_rfl) (fun W hW => x_neq (b := false) (decide_eq_false (fun h => h rfl)) rfl rfl) (by kernel_rfl) (by decide) fun a hF => ?_
      refine d_val 5 34 (op := (Go.Op.move (Go.Operand.tmp 33))) hF hS (by kernel_rfl) (fun W hW => x_move rfl) (by kernel_rfl) (by decide) fun a hF => ?_
      refine d_valg 6 35 34 (j := 5) (want := false) (op := (Go.Op.load 27 (Go.Operand.tmp 5))) hF hS (by kernel_rfl) (by kernel_rfl) rfl (fun W hW => x_ldW wide27 (m5_d.k2 hW (by omega)) rfl rfl) (by kernel_rfl) (by decide) fun a hF => ?_
      refine d_valg 7 36 34 (j := 5) (want := false) (op := (Go.Op.load 27 (Go.Operand.tmp 6))) hF hS (by kernel_rfl) (by kernel_rfl) rfl (fun W hW => x_ldW wide27 (m6_d.k2 hW (by omega)) rfl rfl) (by kernel_rfl) (by decide) fun a hF => ?_
      refine d_oneg 8 34 (some 37) (Go.Op.call (Go.Call.mk (Go.Callee.value (Go.Operand.func 19)) #[(Go.Operand.tmp 35), (Go.Operand.tmp 36)] #[27, 27])) (j := 5) (want := false) hF (by kernel_rfl) (by kernel_rfl) (by kernel_rfl) rfl fun ty pos af => ?_
      refine s_callB [_, _] hF (enters_of Try.func19 (by kernel_rfl) rfl) rfl (by decide) (alike23 cN cM yN yM w110 (hcN.valid.mono (fun k hk => hk.2)) (hcM.valid.mono (fun k hk => hk.2)) heNM hplN) fun w112 a B113 hF => ?_
      have sB113 := B113.size
      have hB := hB.trans (B113.mono hB.size)
      have m5 := m5.old B113
      have m6 := m6.old B113
      have m7 := m7.old B113
      have hS := hS.below B113
      have hct := hct.below B113
      have hcu := hcu.below B113
      have hcX := hcX.below B113
      have hcN := hcN.below B113
      have hcY := hcY.below B113
      have hcM := hcM.below B113
      refine s_end ⟨hS, ?_⟩
      refine d_valg 9 38 34 (j := 5) (want := false) (op := (Go.Op.unOp Go.UnOp.not 4 (Go.Operand.tmp 37))) hF hS (by kernel_rfl) (by kernel_rfl) rfl (fun W hW => x_not rfl) (by kernel_rfl) (by decide) fun a hF => ?_
      refine d_val 10 39 (op := (Go.Op.pick (Go.Operand.tmp 34) (Go.Operand.const (Go.Value.bool true)) (Go.Operand.tmp 38))) hF hS (by kernel_rfl) (fun W hW => x_pick (b := false) rfl rfl) (by kernel_rfl) (by decide) fun a hF => ?_
      refine d_end (by kernel_rfl) (hK15 _ _ ?_)
      refine wp_if hF rfl ?_
      refine wp_skip (hK8 _ _ ?_)
      refine wp_region_lit ?_
      refine s_val hF (x_addn (i + 1) (by omega) (by omega) rfl rfl) (by decide) fun a hF => ?_
      refine s_val hF (x_move rfl) (by decide) fun a hF => ?_
      refine s_end (hK' _ _ (by omega) ⟨cN, cM, yN, yM, heNM, hplN, hcN.mono (fun k hk => hk.1), hcM.mono (fun k hk => hk.1), m5, m6, hB, hF.sub _ rfl⟩)
  · refine wp_exit (hK4 _ _ ?_)
    refine dk2_seq (w.heap.size) (w.heap.size) (ops := regOps Try.f6 11) (N := 11) (by kernel_rfl) wide_orders (by kernel_rfl) fun w114 hw114 B115 hS K16 hK16 => ?_
    have zw114 : w114.heap.size = w.heap.size := by rw [hw114]
    have sB115 := B115.size
    have hB := hB.trans (B115.mono hB.size)
    have m5 := m5.old B115
    have m6 := m6.old B115
    have hct := hct.below B115
    have hcu := hcu.below B115
    have m5_d := m5
    have m6_d := m6
    have hct_d := hct
    have hcu_d := hcu
    have hB_d := hB
    refine d_val 0 41 (op := (Go.Op.load 27 (Go.Operand.tmp 5))) hF hS (by kernel_rfl) (fun W hW => x_ldW wide27 (m5_d.k2 hW (by omega)) rfl rfl) (by kernel_rfl) (by decide) fun a hF => ?_
    refine d_val 1 42 (op := (Go.Op.move (Go.Operand.tmp 1))) hF hS (by kernel_rfl) (fun W hW => x_move rfl) (by kernel_rfl) (by decide) fun a hF => ?_
    refine d_val 3 44 (op := (Go.Op.load 27 (Go.Operand.tmp 6))) hF hS (by kernel_rfl) (fun W hW => x_ldW wide27 (m6_d.k2 hW (by omega)) rfl rfl) (by kernel_rfl) (by decide) fun a hF => ?_
    refine d_val 4 45 (op := (Go.Op.move (Go.Operand.tmp 1))) hF hS (by kernel_rfl) (fun W hW => x_move rfl) (by kernel_rfl) (by decide) fun a hF => ?_
    refine d_one 2 (some 43) (Go.Op.call (Go.Call.mk (Go.Callee.value (Go.Operand.func 36)) #[(Go.Operand.tmp 41), (Go.Operand.const (Go.Value.int Go.IntKind.i64 0)), (Go.Operand.tmp 42)] #[27, 3, 3])) (by kernel_rfl) (by kernel_rfl) fun ty pos af => ?_
    refine s_callR (R := fun r w' => ∃ y, r = tv y ∧ RT w' (PT.Lift (CT.ess ct) 0 lf) y) [_, _, _] hF (enters_of Try.func36 (by kernel_rfl) rfl) rfl (by decide) (Lift48 ct yt 0 lf w114 (hct.valid.mono (fun k hk => hk.2))) ?_
    rintro _ w116 a ⟨yP, rfl, hqP⟩ B117 hF
    have sB117 := B117.size
    have hB := hB.trans (B117.mono hB.size)
    have m5 := m5.old B117
    have m6 := m6.old B117
    have hS := hS.below B117
    have hct := hct.below B117
    have hcu := hcu.below B117
    obtain ⟨cP, hcP, heP⟩ := hqP
    have hBP := Below.refl w116.heap.size w116
    have sBP := hBP.size
    refine s_end ⟨hS, ?_⟩
    refine d_one 5 (some 46) (Go.Op.call (Go.Call.mk (Go.Callee.value (Go.Operand.func 37)) #[(Go.Operand.tmp 44), (Go.Operand.const (Go.Value.int Go.IntKind.i64 0)), (Go.Operand.tmp 45)] #[27, 3, 3])) (by kernel_rfl) (by kernel_rfl) fun ty pos af => ?_
    refine s_callR (R := fun r w' => ∃ y, r = tv y ∧ RT w' (PT.Lift (CT.ess cu) 0 lf) y) [_, _, _] hF (enters_of Try.func37 (by kernel_rfl) rfl) rfl (by decide) (rLift49 cu yu 0 lf w116 (hcu.valid.mono (fun k hk => hk.2)) (by rw [← heq]; exact hpl)) ?_
    rintro _ w118 a ⟨yQ, rfl, hqQ⟩ B119 hF
    have sB119 := B119.size
    have hB := hB.trans (B119.mono hB.size)
    have hBP := hBP.trans (B119.mono hBP.size)
    have m5 := m5.old B119
    have m6 := m6.old B119
    have hS := hS.below B119
    have hct := hct.below B119
    have hcu := hcu.below B119
    obtain ⟨cQ, hcQ, heQ⟩ := hqQ
    have hBQ := Below.refl w118.heap.size w118
    have sBQ := hBQ.size
    refine s_end ⟨hS, ?_⟩
    refine d_one 6 (some 47) (Go.Op.call (Go.Call.mk (Go.Callee.value (Go.Operand.func 19)) #[(Go.Operand.tmp 43), (Go.Operand.tmp 46)] #[27, 27])) (by kernel_rfl) (by kernel_rfl) fun ty pos af => ?_
    refine s_callB [_, _] hF (enters_of Try.func19 (by kernel_rfl) rfl) rfl (by decide) (alike23 cP cQ yP yQ w118 (hcP.bel hBP) (hcQ.bel hBQ) (by rw [heP, heQ, heq]) (by rw [heP]; exact Lift_plain hpl)) fun w120 a B121 hF => ?_
    have sB121 := B121.size
    have hB := hB.trans (B121.mono hB.size)
    have hBP := hBP.trans (B121.mono hBP.size)
    have hBQ := hBQ.trans (B121.mono hBQ.size)
    have m5 := m5.old B121
    have m6 := m6.old B121
    have hS := hS.below B121
    have hct := hct.below B121
    have hcu := hcu.below B121
    refine s_end ⟨hS, ?_⟩
    refine d_val 7 48 (op := (Go.Op.move (Go.Operand.tmp 47))) hF hS (by kernel_rfl) (fun W hW => x_move rfl) (by kernel_rfl) (by decide) fun a hF => ?_
    refine d_oneg 8 48 (some 49) (Go.Op.call (Go.Call.mk (Go.Callee.value (Go.Operand.func 11)) #[] #[])) (j := 7) (want := true) hF (by kernel_rfl) (by kernel_rfl) (by kernel_rfl) rfl fun ty pos af => ?_
    refine s_callB [] hF (enters_of Try.func11 (by kernel_rfl) rfl) rfl (by decide) (awake15 w120) fun w122 a B123 hF => ?_
    have sB123 := B123.size
    have hB := hB.trans (B123.mono hB.size)
    have hBP := hBP.trans (B123.mono hBP.size)
    have hBQ := hBQ.trans (B123.mono hBQ.size)
    have m5 := m5.old B123
    have m6 := m6.old B123
    have hS := hS.below B123
    have hct := hct.below B123
    have hcu := hcu.below B123
    refine s_end ⟨hS, ?_⟩
    refine d_val 9 50 (op := (Go.Op.pick (Go.Operand.tmp 48) (Go.Operand.tmp 49) (Go.Operand.const (Go.Value.bool false)))) hF hS (by kernel_rfl) (fun W hW => x_pick (b := true) rfl rfl) (by kernel_rfl) (by decide) fun a hF => ?_
    refine d_val 10 4 (op := (Go.Op.assign (Go.Operand.tmp 50))) hF hS (by kernel_rfl) (fun W hW => x_assign rfl) (by kernel_rfl) (by decide) fun a hF => ?_
    refine d_end (by kernel_rfl) (hK16 _ _ ?_)
    refine wp_ret (res_slot hF rfl rfl ⟨rfl, hB⟩)
end Go.Proofs.Ytaclncmkdpjnlaa

namespace Go.Proofs.Ytaclncmkdpjnlaa
open Go.RowKit Go.Shelf Go.ChangeShapes Go.WideShapes
set_option linter.unusedVariables false
set_option linter.unusedSimpArgs false

section
variable {α : Type} {encA : α → List Value} {k : Nat}
end
end Go.Proofs.Ytaclncmkdpjnlaa

namespace Go.Proofs.Ytaclncmkdpjnlaa
open Go.RowKit Go.Shelf Go.ChangeShapes Go.WideShapes
set_option maxRecDepth 100000
set_option linter.unusedVariables false
set_option linter.unusedSimpArgs false

section
variable {H : Type} {enc : TypeId × Value → H} {w : World} {base : Nat} {spare : Nat → Bool} {held : Bool}
end
end Go.Proofs.Ytaclncmkdpjnlaa

namespace Go.Proofs.Ytaclncmkdpjnlaa
open Go.RowKit Go.Shelf Go.ChangeShapes Go.WideShapes
set_option maxRecDepth 100000
set_option linter.unusedVariables false
set_option linter.unusedSimpArgs false
section
variable {H : Type} {enc : TypeId × Value → H} {w : World} {base : Nat} {spare : Nat → Bool} {held : Bool}
end
end Go.Proofs.Ytaclncmkdpjnlaa
