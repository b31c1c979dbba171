/- LevelRises. -/
import Derived.Test.YtnnkggfhhkhnmaaLawB
namespace Go.Proofs.Ytnnkggfhhkhnmaa
open Go.RowKit Go.Shelf
set_option linter.unusedVariables false
set_option linter.unusedSimpArgs false

section
variable {P : Program} {ops : Array Oper} {K : Act → World → Prop} {S : World → Prop} {N fuel : Nat} {done : List Nat} {a : Act} {w : World}
theorem d_three (i j k : Nat) (hr : Region.ready .any ops (lst N done) = [i, j, k])
    (h1 : wpOp P ops (QN K) i (fun a' w' => S w' ∧ wpAnyH P .any ops (QN K) S fuel (lst N (i :: done)) a' w') a w)
    (h2 : wpOp P ops (QN K) j (fun a' w' => S w' ∧ wpAnyH P .any ops (QN K) S fuel (lst N (j :: done)) a' w') a w)
    (h3 : wpOp P ops (QN K) k (fun a' w' => S w' ∧ wpAnyH P .any ops (QN K) S fuel (lst N (k :: done)) a' w') a w) : wpAnyH P .any ops (QN K) S (fuel + 1) (lst N done) a w := by
  refine wpAnyH_all hr (by simp) (fun m hm => ?_)
  simp at hm
  rcases hm with rfl | rfl | rfl
  · exact h1
  · exact h2
  · exact h3
end

theorem em2 (A B : Prop) : ¬ A ∨ (A ∧ ¬ B) ∨ (A ∧ B) := by
  by_cases h1 : A <;> by_cases h2 : B <;> simp [h1, h2]
theorem x_remU {P : Program} {n : Nat} {l : List (Nat × Value)} {w : World} {t t' : TypeId} {x y : Operand} {p q : Int} (r : Nat) (h0 : q ≠ 0) (h1 : p.tmod q = (r : Int)) (hx : ov l x = some (.int .u64 p)) (hy : ov l y = some (.int .u64 q)) : Runs P n l w (.binOp .rem t x y t') (.int .u64 (r : Int)) :=
  x_bin hx hy (b_int fun W => by simp [binOp, Op.intDiv, h0, h1])
theorem mod_nat (z : Int) : ∃ m : Nat, IntKind.u64.wrap z = (m : Int) := ⟨(z % 18446744073709551616).toNat, by rw [wrap_u64]; omega⟩
theorem lit_dep : ∀ (s : SL), s.lit → s.tot ≤ 1048576 * (s.dep : Int)
  | .num n, h => by simp only [SL.lit, SL.tot, SL.dep] at *; omega
  | .var _, _ => by simp only [SL.tot, SL.dep]; omega
  | .succ n a, h => by have := lit_dep a h.2; have := h.1; simp only [SL.tot, SL.dep]; omega
  | .mx a b, h => by have := lit_dep a h.1; have := lit_dep b h.2; simp only [SL.tot, SL.dep]; omega
theorem lit_tot {s : SL} (h : s.lit) (hg : s.good) : s.tot ≤ 268435456 := by
  have := lit_dep s h
  have := hg.2.1
  omega
theorem plus_tot {s : SL} {N : Nat} (h : s.lit) (hN : N ≤ 2000) : (plusS N s).tot = N + s.tot := by
  cases s with
  | succ m a => have := h.1; simp only [plusS, SL.tot, cut]; omega
  | num n => simp only [plusS, SL.tot]
  | var n => simp only [plusS, SL.tot]
  | mx a b => simp only [plusS, SL.tot]
theorem plus_val {s : SL} {N : Nat} {ρ : Nat → Int} (hρ : ∀ j, 0 ≤ ρ j ∧ ρ j ≤ 34359738368) (h : s.lit) (ht : s.tot ≤ 268435456) (hN : N ≤ 2000) : val (plusS N s) ρ = val s ρ + N := by
  cases s with
  | succ m a =>
    have h1 := h.1
    have h2 := a.tot_nn
    simp only [SL.tot] at ht
    have := val_tot hρ a (by omega)
    simp only [plusS, val, cut]
    omega
  | num n => simp only [SL.tot] at ht; simp only [plusS, val, cut]; omega
  | var i => have := hρ i; simp only [plusS, val, cut]; omega
  | mx a b => have := val_tot hρ (.mx a b) (by omega); simp only [plusS, val, cut] at *; omega
theorem le_vals {s t : SL} (hs : s.tot ≤ 1073741824) (ht : t.tot ≤ 1073741824) : leS s t ↔ ∀ ρ : Nat → Int, (∀ j, 0 ≤ ρ j ∧ ρ j ≤ 34359738368) → val s ρ ≤ val t ρ :=
  ⟨fun h ρ hρ => leS.val hρ h (by omega) (by omega), fun h => leS_of hs ht (h _ fun j => ⟨by simp, by simp⟩) fun i _ => h _ fun j => by unfold oneAt; split <;> omega⟩
theorem rise_le {p : SL} {N : Nat} (h : p.lit) (hg : p.good) (hN : N ≤ 2000) : leS p (plusS N p) := by
  have h1 := lit_tot h hg
  have h2 := plus_tot h hN
  refine (le_vals (by omega) (by omega)).2 fun ρ hρ => ?_
  rw [plus_val hρ h h1 hN]
  omega
theorem rise_not {p : SL} {N : Nat} (h : p.lit) (hg : p.good) (hN : N ≤ 2000) (h0 : 1 ≤ N) : ¬ leS (plusS N p) p := by
  have h1 := lit_tot h hg
  have h2 := plus_tot h hN
  intro hl
  have h3 : ∀ j : Nat, 0 ≤ (fun _ : Nat => (0 : Int)) j ∧ (fun _ : Nat => (0 : Int)) j ≤ 34359738368 := fun j => ⟨by simp, by simp⟩
  have := (le_vals (by omega) (by omega)).1 hl _ h3
  rw [plus_val h3 h h1 hN] at this
  omega
theorem rise_iff {p q : SL} {N : Nat} (h : p.lit) (hg : p.good) (h' : q.lit) (hg' : q.good) (hN : N ≤ 2000) : leS (plusS N p) (plusS N q) ↔ leS p q := by
  have h1 := lit_tot h hg
  have h2 := plus_tot h hN
  have h3 := lit_tot h' hg'
  have h4 := plus_tot h' hN
  rw [le_vals (by omega) (by omega), le_vals (by omega) (by omega)]
  constructor
  · intro hl ρ hρ
    have := hl ρ hρ
    rw [plus_val hρ h h1 hN, plus_val hρ h' h3 hN] at this
    omega
  · intro hl ρ hρ
    have := hl ρ hρ
    rw [plus_val hρ h h1 hN, plus_val hρ h' h3 hN]
    omega
theorem plus_plus {p : SL} {N : Nat} (h : p.lit) (hN : N ≤ 2000) : plusS 1 (plusS N p) = plusS (N + 1) p := by
  cases p with
  | succ m a => have := h.1; show SL.succ _ _ = SL.succ _ _; congr 1; simp only [cut]; omega
  | num n => show SL.succ _ _ = SL.succ _ _; congr 1; simp only [cut]; omega
  | var n => show SL.succ _ _ = SL.succ _ _; congr 1; simp only [cut]; omega
  | mx a b => show SL.succ _ _ = SL.succ _ _; congr 1; simp only [cut]; omega
theorem plus_good {p : SL} {N : Nat} (h : p.lit) (hN : N ≤ 2000) (hg : (plusS N p).good) : (plusS (N + 1) p).good := by
  obtain ⟨g1, g2, g3⟩ := hg
  cases p with
  | succ m a => have := h.1; exact ⟨g1, g2, by simp only [cut]; omega, by simp only [cut]; omega, g3.2.2⟩
  | num n => exact ⟨g1, g2, by omega, by omega, g3.2.2⟩
  | var n => exact ⟨g1, g2, by omega, by omega, g3.2.2⟩
  | mx a b => exact ⟨g1, g2, by omega, by omega, g3.2.2⟩

set_option maxRecDepth 100000 in
set_option maxHeartbeats 1600000 in
theorem levelRises_walk (x y : C3) (la lb : Lv) (n : Int) (w0 : World) (hLa : RL w0 x la) (hLb : RL w0 y lb) : Calls Try.prog 12 #[lv x, lv y, .int .i64 n] w0 fun e w' => e = .returned (.bool true) ∧ Below w0.heap.size w0 w' := by
  have hB := Below.refl w0.heap.size w0
  have sB := hB.size
  refine calls_fs 80 [(0, lv x), (1, lv y), (2, .int .i64 n)] Try.func12 rfl rfl rfl rfl rfl fun a hF => ?_
  refine wp_rs fun K1 hK1 => ?_
  refine s_box (lc x) hF (by decide) rfl rfl fun w2 b3 a eb3 m3 B3 zb3 hF => ?_
  have sB3 := B3.size
  have hB := hB.trans (B3.mono hB.size)
  refine s_box (lc y) hF (by decide) rfl rfl fun w4 b4 a eb4 m4 B5 zb4 hF => ?_
  have sB5 := B5.size
  have hB := hB.trans (B5.mono hB.size)
  have m3 := m3.old B5
  refine s_val hF (x_assign rfl) (by decide) fun a hF => ?_
  refine s_end (hK1 _ _ ?_)
  refine wp_seq_k fun K2 hK2 => ?_
  rcases (show (decide (sndL la) = false) ∨ (decide (sndL la) = true ∧ decide (sndL lb) = false) ∨ (decide (sndL la) = true ∧ decide (sndL lb) = true) by cases decide (sndL la) <;> cases decide (sndL lb) <;> simp) with hd1 | ⟨hd1, hd2⟩ | ⟨hd1, hd2⟩
  · skip
    refine wp_rs fun K4 hK4 => ?_
    refine s_val hF (x_ldW wide24 m3 rfl rfl) (by decide) fun a hF => ?_
    refine s_callB [_] hF (enters_of Try.func17 (by kernel_rfl) rfl) rfl (by decide) (rSound17 x la w4 (hLa.old hB)) fun w6 a B7 hF => ?_
    have sB7 := B7.size
    have hB := hB.trans (B7.mono hB.size)
    have m3 := m3.old B7
    have m4 := m4.old B7
    rw [hd1] at hF
    refine s_val hF (x_not rfl) (by decide) fun a hF => ?_
    refine s_val hF (x_move rfl) (by decide) fun a hF => ?_
    refine s_grdn 12 hF rfl rfl (by decide) fun a hF => ?_
    refine s_grdn 12 hF rfl rfl (by decide) fun a hF => ?_
    refine s_grdn 12 hF rfl rfl (by decide) fun a hF => ?_
    refine s_val hF (x_pick (b := true) rfl rfl) (by decide) fun a hF => ?_
    refine s_val hF (x_move rfl) (by decide) fun a hF => ?_
    refine s_grdn 17 hF rfl rfl (by decide) fun a hF => ?_
    refine s_grdn 17 hF rfl rfl (by decide) fun a hF => ?_
    refine s_grdn 17 hF rfl rfl (by decide) fun a hF => ?_
    refine s_val hF (x_pick (b := true) rfl rfl) (by decide) fun a hF => ?_
    refine s_val hF (x_move rfl) (by decide) fun a hF => ?_
    refine s_grdn 22 hF rfl rfl (by decide) fun a hF => ?_
    refine s_grdn 22 hF rfl rfl (by decide) fun a hF => ?_
    refine s_grdn 22 hF rfl rfl (by decide) fun a hF => ?_
    refine s_val hF (x_pick (b := true) rfl rfl) (by decide) fun a hF => ?_
    refine s_end (hK4 _ _ ?_)
    refine wp_if hF rfl ?_
    refine wp_rs fun K5 hK5 => ?_
    refine s_callB [] hF (enters_of Try.func15 (by kernel_rfl) rfl) rfl (by decide) (awake15 w6) fun w8 a B9 hF => ?_
    have sB9 := B9.size
    have hB := hB.trans (B9.mono hB.size)
    have m3 := m3.old B9
    have m4 := m4.old B9
    refine s_val hF (x_assign rfl) (by decide) fun a hF => ?_
    refine s_end (hK5 _ _ ?_)
    refine wp_ret (then_ret (res_slot hF rfl rfl ⟨rfl, hB⟩))
  · skip
    refine wp_rs fun K6 hK6 => ?_
    refine s_val hF (x_ldW wide24 m3 rfl rfl) (by decide) fun a hF => ?_
    refine s_callB [_] hF (enters_of Try.func17 (by kernel_rfl) rfl) rfl (by decide) (rSound17 x la w4 (hLa.old hB)) fun w10 a B11 hF => ?_
    have sB11 := B11.size
    have hB := hB.trans (B11.mono hB.size)
    have m3 := m3.old B11
    have m4 := m4.old B11
    rw [hd1] at hF
    refine s_val hF (x_not rfl) (by decide) fun a hF => ?_
    refine s_val hF (x_move rfl) (by decide) fun a hF => ?_
    refine s_grd 12 hF rfl rfl rfl ?_
    refine s_val hF (x_ldW wide24 m4 rfl rfl) (by decide) fun a hF => ?_
    refine s_grd 12 hF rfl rfl rfl ?_
    refine s_callB [_] hF (enters_of Try.func17 (by kernel_rfl) rfl) rfl (by decide) (rSound17 y lb w10 (hLb.old hB)) fun w12 a B13 hF => ?_
    have sB13 := B13.size
    have hB := hB.trans (B13.mono hB.size)
    have m3 := m3.old B13
    have m4 := m4.old B13
    rw [hd2] at hF
    refine s_grd 12 hF rfl rfl rfl ?_
    refine s_val hF (x_not rfl) (by decide) fun a hF => ?_
    refine s_val hF (x_pick (b := false) rfl rfl) (by decide) fun a hF => ?_
    refine s_val hF (x_move rfl) (by decide) fun a hF => ?_
    refine s_grdn 17 hF rfl rfl (by decide) fun a hF => ?_
    refine s_grdn 17 hF rfl rfl (by decide) fun a hF => ?_
    refine s_grdn 17 hF rfl rfl (by decide) fun a hF => ?_
    refine s_val hF (x_pick (b := true) rfl rfl) (by decide) fun a hF => ?_
    refine s_val hF (x_move rfl) (by decide) fun a hF => ?_
    refine s_grdn 22 hF rfl rfl (by decide) fun a hF => ?_
    refine s_grdn 22 hF rfl rfl (by decide) fun a hF => ?_
    refine s_grdn 22 hF rfl rfl (by decide) fun a hF => ?_
    refine s_val hF (x_pick (b := true) rfl rfl) (by decide) fun a hF => ?_
    refine s_end (hK6 _ _ ?_)
    refine wp_if hF rfl ?_
    refine wp_rs fun K7 hK7 => ?_
    refine s_callB [] hF (enters_of Try.func15 (by kernel_rfl) rfl) rfl (by decide) (awake15 w12) fun w14 a B15 hF => ?_
    have sB15 := B15.size
    have hB := hB.trans (B15.mono hB.size)
    have m3 := m3.old B15
    have m4 := m4.old B15
    refine s_val hF (x_assign rfl) (by decide) fun a hF => ?_
    refine s_end (hK7 _ _ ?_)
    refine wp_ret (then_ret (res_slot hF rfl rfl ⟨rfl, hB⟩))
  · have hsn1 : sndL la := of_decide_eq_true hd1
    obtain ⟨p, hp, gp⟩ := sound_sl hLa hsn1
    have hsn2 : sndL lb := of_decide_eq_true hd2
    obtain ⟨q, hq, gq⟩ := sound_sl hLb hsn2
    have bp := good_bd gp
    have bq := good_bd gq
    have fp := gp.2.2.few (by decide)
    have fq := gq.2.2.few (by decide)
    refine wp_rs fun K8 hK8 => ?_
    refine s_val hF (x_ldW wide24 m3 rfl rfl) (by decide) fun a hF => ?_
    refine s_callB [_] hF (enters_of Try.func17 (by kernel_rfl) rfl) rfl (by decide) (rSound17 x la w4 (hLa.old hB)) fun w16 a B17 hF => ?_
    have sB17 := B17.size
    have hB := hB.trans (B17.mono hB.size)
    have m3 := m3.old B17
    have m4 := m4.old B17
    rw [hd1] at hF
    refine s_val hF (x_not rfl) (by decide) fun a hF => ?_
    refine s_val hF (x_move rfl) (by decide) fun a hF => ?_
    refine s_grd 12 hF rfl rfl rfl ?_
    refine s_val hF (x_ldW wide24 m4 rfl rfl) (by decide) fun a hF => ?_
    refine s_grd 12 hF rfl rfl rfl ?_
    refine s_callB [_] hF (enters_of Try.func17 (by kernel_rfl) rfl) rfl (by decide) (rSound17 y lb w16 (hLb.old hB)) fun w18 a B19 hF => ?_
    have sB19 := B19.size
    have hB := hB.trans (B19.mono hB.size)
    have m3 := m3.old B19
    have m4 := m4.old B19
    rw [hd2] at hF
    refine s_grd 12 hF rfl rfl rfl ?_
    refine s_val hF (x_not rfl) (by decide) fun a hF => ?_
    refine s_val hF (x_pick (b := false) rfl rfl) (by decide) fun a hF => ?_
    refine s_val hF (x_move rfl) (by decide) fun a hF => ?_
    refine s_grd 17 hF rfl rfl rfl ?_
    refine s_val hF (x_ldW wide24 m3 rfl rfl) (by decide) fun a hF => ?_
    refine s_grd 17 hF rfl rfl rfl ?_
    refine s_callR (R := fun v w' => ∃ b, v = .bool b ∧ (b = true → p.lit)) [_] hF (enters_of Try.func31 (by kernel_rfl) rfl) rfl (by decide) (little31 (p.size + 1) p x w18 (by omega) (RS.below hB hp)) ?_
    rintro _ w20 a ⟨b19, rfl, hb19⟩ B21 hF
    have sB21 := B21.size
    have hB := hB.trans (B21.mono hB.size)
    have m3 := m3.old B21
    have m4 := m4.old B21
    cases b19
    · refine s_grd 17 hF rfl rfl rfl ?_
      refine s_val hF (x_not rfl) (by decide) fun a hF => ?_
      refine s_val hF (x_pick (b := false) rfl rfl) (by decide) fun a hF => ?_
      refine s_val hF (x_move rfl) (by decide) fun a hF => ?_
      refine s_grdn 22 hF rfl rfl (by decide) fun a hF => ?_
      refine s_grdn 22 hF rfl rfl (by decide) fun a hF => ?_
      refine s_grdn 22 hF rfl rfl (by decide) fun a hF => ?_
      refine s_val hF (x_pick (b := true) rfl rfl) (by decide) fun a hF => ?_
      refine s_end (hK8 _ _ ?_)
      refine wp_if hF rfl ?_
      refine wp_rs fun K9 hK9 => ?_
      refine s_callB [] hF (enters_of Try.func15 (by kernel_rfl) rfl) rfl (by decide) (awake15 w20) fun w22 a B23 hF => ?_
      have sB23 := B23.size
      have hB := hB.trans (B23.mono hB.size)
      have m3 := m3.old B23
      have m4 := m4.old B23
      refine s_val hF (x_assign rfl) (by decide) fun a hF => ?_
      refine s_end (hK9 _ _ ?_)
      refine wp_ret (then_ret (res_slot hF rfl rfl ⟨rfl, hB⟩))
    · refine s_grd 17 hF rfl rfl rfl ?_
      refine s_val hF (x_not rfl) (by decide) fun a hF => ?_
      refine s_val hF (x_pick (b := false) rfl rfl) (by decide) fun a hF => ?_
      refine s_val hF (x_move rfl) (by decide) fun a hF => ?_
      refine s_grd 22 hF rfl rfl rfl ?_
      refine s_val hF (x_ldW wide24 m4 rfl rfl) (by decide) fun a hF => ?_
      refine s_grd 22 hF rfl rfl rfl ?_
      refine s_callR (R := fun v w' => ∃ b, v = .bool b ∧ (b = true → q.lit)) [_] hF (enters_of Try.func31 (by kernel_rfl) rfl) rfl (by decide) (little31 (q.size + 1) q y w20 (by omega) (RS.below hB hq)) ?_
      rintro _ w24 a ⟨b24, rfl, hb24⟩ B25 hF
      have sB25 := B25.size
      have hB := hB.trans (B25.mono hB.size)
      have m3 := m3.old B25
      have m4 := m4.old B25
      cases b24
      · refine s_grd 22 hF rfl rfl rfl ?_
        refine s_val hF (x_not rfl) (by decide) fun a hF => ?_
        refine s_val hF (x_pick (b := false) rfl rfl) (by decide) fun a hF => ?_
        refine s_end (hK8 _ _ ?_)
        refine wp_if hF rfl ?_
        refine wp_rs fun K10 hK10 => ?_
        refine s_callB [] hF (enters_of Try.func15 (by kernel_rfl) rfl) rfl (by decide) (awake15 w24) fun w26 a B27 hF => ?_
        have sB27 := B27.size
        have hB := hB.trans (B27.mono hB.size)
        have m3 := m3.old B27
        have m4 := m4.old B27
        refine s_val hF (x_assign rfl) (by decide) fun a hF => ?_
        refine s_end (hK10 _ _ ?_)
        refine wp_ret (then_ret (res_slot hF rfl rfl ⟨rfl, hB⟩))
      · refine s_grd 22 hF rfl rfl rfl ?_
        refine s_val hF (x_not rfl) (by decide) fun a hF => ?_
        refine s_val hF (x_pick (b := false) rfl rfl) (by decide) fun a hF => ?_
        refine s_end (hK8 _ _ ?_)
        refine wp_if hF rfl ?_
        refine wp_skip (hK2 _ _ ?_)
        have lp := hb19 rfl
        have lq := hb24 rfl
        obtain ⟨m, hm⟩ := mod_nat n
        obtain ⟨N, hN⟩ : ∃ N, N = m % 1000 + 1 := ⟨_, rfl⟩
        have hN1 : 1 ≤ N ∧ N ≤ 1000 := by omega
        refine wp_rs fun K11 hK11 => ?_
        refine s_val hF (x_move rfl) (by decide) fun a hF => ?_
        refine s_val hF (x_cvt Try.underlying3 Try.underlying48 hm rfl) (by decide) fun a hF => ?_
        refine s_val hF (x_remU (m % 1000) (by decide) (Int.ofNat_tmod m 1000).symm rfl rfl) (by decide) fun a hF => ?_
        refine s_val hF (x_cvt Try.underlying48 Try.underlying3 (wrap_i64 (by omega) (by omega)) rfl) (by decide) fun a hF => ?_
        refine s_val hF (x_addn N (by omega) (by omega) rfl rfl) (by decide) fun a hF => ?_
        refine s_val hF (x_assign rfl) (by decide) fun a hF => ?_
        refine s_end (hK11 _ _ ?_)
        refine dk2_seq (w24.heap.size) (w24.heap.size) (ops := regOps Try.f12 4) (N := 10) (by kernel_rfl) wide_orders (by kernel_rfl) fun w28 hw28 B29 hS K12 hK12 => ?_
        have zw28 : w28.heap.size = w24.heap.size := by rw [hw28]
        have sB29 := B29.size
        have hB := hB.trans (B29.mono hB.size)
        have m3 := m3.old B29
        have m4 := m4.old B29
        have m3_d := m3
        have m4_d := m4
        have hB_d := hB
        have key12 : ∀ (a : Act) (w : World) (b7 b8 : Nat) (u v : C3), Below w0.heap.size w0 w → Blk w b3 24 (lc x) → Blk w b4 24 (lc y) → Blk w b7 24 (lc u) → Blk w b8 24 (lc v) → RS w (plusS N p) u → RS w (plusS N q) v → Fs 80 a [(2, .int .i64 (N : Int)), (3, .pointer (some ⟨b3, 0, none⟩)), (4, .pointer (some ⟨b4, 0, none⟩)), (7, .pointer (some ⟨b7, 0, none⟩)), (8, .pointer (some ⟨b8, 0, none⟩))] → K12 a w := by
          intro a w b7 b8 u v hB m3 m4 m7 m8 hu hv hF
          have sB := hB.size
          have hB7 := Below.refl w.heap.size w
          have sB7 := hB7.size
          have hm3 := m3.lt
          have hm4 := m4.lt
          have hm7 := m7.lt
          have hm8 := m8.lt
          refine hK12 _ _ ?_
          refine wp_seq_k fun K13 hK13 => ?_
          rcases em2 (plusS N p).good (plusS N q).good with n1 | ⟨g1, n2⟩ | ⟨g1, g2⟩
          · skip
            refine wp_rs fun K15 hK15 => ?_
            refine s_val hF (x_ldW wide24 m7 rfl rfl) (by decide) fun a hF => ?_
            refine s_callR (R := fun v w' => ∃ b, v = .bool b ∧ (b = true ↔ (plusS N p).good)) [_] hF (enters_of Try.func17 (by kernel_rfl) rfl) rfl (by decide) (sndS (RS.below hB7 hu)) ?_
            rintro _ w30 a ⟨bs40, rfl, hbs40⟩ B31 hF
            have sB31 := B31.size
            have hB := hB.trans (B31.mono hB.size)
            have hB7 := hB7.trans (B31.mono hB7.size)
            have m3 := m3.old B31
            have m4 := m4.old B31
            have m7 := m7.old B31
            have m8 := m8.old B31
            obtain rfl : bs40 = false := Bool.eq_false_iff.2 fun h => n1 (hbs40.1 h)
            refine s_val hF (x_not rfl) (by decide) fun a hF => ?_
            refine s_val hF (x_move rfl) (by decide) fun a hF => ?_
            refine s_grdn 42 hF rfl rfl (by decide) fun a hF => ?_
            refine s_grdn 42 hF rfl rfl (by decide) fun a hF => ?_
            refine s_grdn 42 hF rfl rfl (by decide) fun a hF => ?_
            refine s_val hF (x_pick (b := true) rfl rfl) (by decide) fun a hF => ?_
            refine s_end (hK15 _ _ ?_)
            refine wp_if hF rfl ?_
            refine wp_rs fun K16 hK16 => ?_
            refine s_callB [] hF (enters_of Try.func15 (by kernel_rfl) rfl) rfl (by decide) (awake15 w30) fun w32 a B33 hF => ?_
            have sB33 := B33.size
            have hB := hB.trans (B33.mono hB.size)
            have hB7 := hB7.trans (B33.mono hB7.size)
            have m3 := m3.old B33
            have m4 := m4.old B33
            have m7 := m7.old B33
            have m8 := m8.old B33
            refine s_val hF (x_assign rfl) (by decide) fun a hF => ?_
            refine s_end (hK16 _ _ ?_)
            refine wp_ret (then_ret (res_slot hF rfl rfl ⟨rfl, hB⟩))
          · skip
            refine wp_rs fun K17 hK17 => ?_
            refine s_val hF (x_ldW wide24 m7 rfl rfl) (by decide) fun a hF => ?_
            refine s_callR (R := fun v w' => ∃ b, v = .bool b ∧ (b = true ↔ (plusS N p).good)) [_] hF (enters_of Try.func17 (by kernel_rfl) rfl) rfl (by decide) (sndS (RS.below hB7 hu)) ?_
            rintro _ w34 a ⟨bs40, rfl, hbs40⟩ B35 hF
            have sB35 := B35.size
            have hB := hB.trans (B35.mono hB.size)
            have hB7 := hB7.trans (B35.mono hB7.size)
            have m3 := m3.old B35
            have m4 := m4.old B35
            have m7 := m7.old B35
            have m8 := m8.old B35
            obtain rfl : bs40 = true := hbs40.2 g1
            refine s_val hF (x_not rfl) (by decide) fun a hF => ?_
            refine s_val hF (x_move rfl) (by decide) fun a hF => ?_
            refine s_grd 42 hF rfl rfl rfl ?_
            refine s_val hF (x_ldW wide24 m8 rfl rfl) (by decide) fun a hF => ?_
            refine s_grd 42 hF rfl rfl rfl ?_
            refine s_callR (R := fun v w' => ∃ b, v = .bool b ∧ (b = true ↔ (plusS N q).good)) [_] hF (enters_of Try.func17 (by kernel_rfl) rfl) rfl (by decide) (sndS (RS.below hB7 hv)) ?_
            rintro _ w36 a ⟨bs44, rfl, hbs44⟩ B37 hF
            have sB37 := B37.size
            have hB := hB.trans (B37.mono hB.size)
            have hB7 := hB7.trans (B37.mono hB7.size)
            have m3 := m3.old B37
            have m4 := m4.old B37
            have m7 := m7.old B37
            have m8 := m8.old B37
            obtain rfl : bs44 = false := Bool.eq_false_iff.2 fun h => n2 (hbs44.1 h)
            refine s_grd 42 hF rfl rfl rfl ?_
            refine s_val hF (x_not rfl) (by decide) fun a hF => ?_
            refine s_val hF (x_pick (b := false) rfl rfl) (by decide) fun a hF => ?_
            refine s_end (hK17 _ _ ?_)
            refine wp_if hF rfl ?_
            refine wp_rs fun K18 hK18 => ?_
            refine s_callB [] hF (enters_of Try.func15 (by kernel_rfl) rfl) rfl (by decide) (awake15 w36) fun w38 a B39 hF => ?_
            have sB39 := B39.size
            have hB := hB.trans (B39.mono hB.size)
            have hB7 := hB7.trans (B39.mono hB7.size)
            have m3 := m3.old B39
            have m4 := m4.old B39
            have m7 := m7.old B39
            have m8 := m8.old B39
            refine s_val hF (x_assign rfl) (by decide) fun a hF => ?_
            refine s_end (hK18 _ _ ?_)
            refine wp_ret (then_ret (res_slot hF rfl rfl ⟨rfl, hB⟩))
          · skip
            refine wp_rs fun K19 hK19 => ?_
            refine s_val hF (x_ldW wide24 m7 rfl rfl) (by decide) fun a hF => ?_
            refine s_callR (R := fun v w' => ∃ b, v = .bool b ∧ (b = true ↔ (plusS N p).good)) [_] hF (enters_of Try.func17 (by kernel_rfl) rfl) rfl (by decide) (sndS (RS.below hB7 hu)) ?_
            rintro _ w40 a ⟨bs40, rfl, hbs40⟩ B41 hF
            have sB41 := B41.size
            have hB := hB.trans (B41.mono hB.size)
            have hB7 := hB7.trans (B41.mono hB7.size)
            have m3 := m3.old B41
            have m4 := m4.old B41
            have m7 := m7.old B41
            have m8 := m8.old B41
            obtain rfl : bs40 = true := hbs40.2 g1
            refine s_val hF (x_not rfl) (by decide) fun a hF => ?_
            refine s_val hF (x_move rfl) (by decide) fun a hF => ?_
            refine s_grd 42 hF rfl rfl rfl ?_
            refine s_val hF (x_ldW wide24 m8 rfl rfl) (by decide) fun a hF => ?_
            refine s_grd 42 hF rfl rfl rfl ?_
            refine s_callR (R := fun v w' => ∃ b, v = .bool b ∧ (b = true ↔ (plusS N q).good)) [_] hF (enters_of Try.func17 (by kernel_rfl) rfl) rfl (by decide) (sndS (RS.below hB7 hv)) ?_
            rintro _ w42 a ⟨bs44, rfl, hbs44⟩ B43 hF
            have sB43 := B43.size
            have hB := hB.trans (B43.mono hB.size)
            have hB7 := hB7.trans (B43.mono hB7.size)
            have m3 := m3.old B43
            have m4 := m4.old B43
            have m7 := m7.old B43
            have m8 := m8.old B43
            obtain rfl : bs44 = true := hbs44.2 g2
            refine s_grd 42 hF rfl rfl rfl ?_
            refine s_val hF (x_not rfl) (by decide) fun a hF => ?_
            refine s_val hF (x_pick (b := false) rfl rfl) (by decide) fun a hF => ?_
            refine s_end (hK19 _ _ ?_)
            refine wp_if hF rfl ?_
            refine wp_skip (hK13 _ _ ?_)
            have gN := plus_good lp (by omega) g1
            have bX := good_bd g1
            have fX := g1.2.2.few (by decide)
            have d1 : decide (leS p (plusS N p)) = true := decide_eq_true (rise_le lp gp (by omega))
            have d2 : decide (leS (plusS N p) p) = false := decide_eq_false (rise_not lp gp (by omega) hN1.1)
            have d4 : decide (leS (plusS N p) (plusS N q)) = decide (leS p q) := decide_eq_decide.2 (rise_iff lp gp lq gq (by omega))
            have d5 : decide (eqF (plusS (N + 1) p) (plusS (N + 1) p)) = true := decide_eq_true (eqF.refl _)
            rcases Bool.eq_false_or_eq_true (decide (leS p q)) with h3 | h3
            · skip
              refine dk2_seq (w42.heap.size) (w42.heap.size) (ops := regOps Try.f12 7) (N := 33) (by kernel_rfl) wide_orders (by kernel_rfl) fun w44 hw44 B45 hS K21 hK21 => ?_
              have zw44 : w44.heap.size = w42.heap.size := by rw [hw44]
              have sB45 := B45.size
              have hB := hB.trans (B45.mono hB.size)
              have hB7 := hB7.trans (B45.mono hB7.size)
              have m3 := m3.old B45
              have m4 := m4.old B45
              have m7 := m7.old B45
              have m8 := m8.old B45
              have m3_d := m3
              have m4_d := m4
              have m7_d := m7
              have m8_d := m8
              have hB_d := hB
              have hB7_d := hB7
              refine d_val 0 48 (op := (Go.Op.load 24 (Go.Operand.tmp 3))) hF hS (by kernel_rfl) (fun W hW => x_ldW wide24 (m3_d.k2 hW (by omega)) rfl rfl) (by kernel_rfl) (by decide) fun a hF => ?_
              refine d_val 1 49 (op := (Go.Op.load 24 (Go.Operand.tmp 7))) hF hS (by kernel_rfl) (fun W hW => x_ldW wide24 (m7_d.k2 hW (by omega)) rfl rfl) (by kernel_rfl) (by decide) fun a hF => ?_
              refine d_one 2 (some 50) (Go.Op.call (Go.Call.mk (Go.Callee.value (Go.Operand.func 25)) #[(Go.Operand.tmp 48), (Go.Operand.tmp 49)] #[24, 24])) (by kernel_rfl) (by kernel_rfl) fun ty pos af => ?_
              refine s_callB [_, _] hF (enters_of Try.func25 (by kernel_rfl) rfl) rfl (by decide) (leqS (RS.below hB hp) (RS.below hB7 hu) gp g1) fun w46 a B47 hF => ?_
              have sB47 := B47.size
              have hB := hB.trans (B47.mono hB.size)
              have hB7 := hB7.trans (B47.mono hB7.size)
              have m3 := m3.old B47
              have m4 := m4.old B47
              have m7 := m7.old B47
              have m8 := m8.old B47
              have hS := hS.below B47
              rw [d1] at hF
              refine s_end ⟨hS, ?_⟩
              refine d_val 3 51 (op := (Go.Op.move (Go.Operand.tmp 50))) hF hS (by kernel_rfl) (fun W hW => x_move rfl) (by kernel_rfl) (by decide) fun a hF => ?_
              refine d_valg 4 52 51 (j := 3) (want := true) (op := (Go.Op.load 24 (Go.Operand.tmp 7))) hF hS (by kernel_rfl) (by kernel_rfl) rfl (fun W hW => x_ldW wide24 (m7_d.k2 hW (by omega)) rfl rfl) (by kernel_rfl) (by decide) fun a hF => ?_
              refine d_valg 5 53 51 (j := 3) (want := true) (op := (Go.Op.load 24 (Go.Operand.tmp 3))) hF hS (by kernel_rfl) (by kernel_rfl) rfl (fun W hW => x_ldW wide24 (m3_d.k2 hW (by omega)) rfl rfl) (by kernel_rfl) (by decide) fun a hF => ?_
              refine d_oneg 6 51 (some 54) (Go.Op.call (Go.Call.mk (Go.Callee.value (Go.Operand.func 25)) #[(Go.Operand.tmp 52), (Go.Operand.tmp 53)] #[24, 24])) (j := 3) (want := true) hF (by kernel_rfl) (by kernel_rfl) (by kernel_rfl) rfl fun ty pos af => ?_
              refine s_callB [_, _] hF (enters_of Try.func25 (by kernel_rfl) rfl) rfl (by decide) (leqS (RS.below hB7 hu) (RS.below hB hp) g1 gp) fun w48 a B49 hF => ?_
              have sB49 := B49.size
              have hB := hB.trans (B49.mono hB.size)
              have hB7 := hB7.trans (B49.mono hB7.size)
              have m3 := m3.old B49
              have m4 := m4.old B49
              have m7 := m7.old B49
              have m8 := m8.old B49
              have hS := hS.below B49
              rw [d2] at hF
              refine s_end ⟨hS, ?_⟩
              refine d_valg 7 55 51 (j := 3) (want := true) (op := (Go.Op.unOp Go.UnOp.not 4 (Go.Operand.tmp 54))) hF hS (by kernel_rfl) (by kernel_rfl) rfl (fun W hW => x_not rfl) (by kernel_rfl) (by decide) fun a hF => ?_
              refine d_val 8 56 (op := (Go.Op.pick (Go.Operand.tmp 51) (Go.Operand.tmp 55) (Go.Operand.const (Go.Value.bool false)))) hF hS (by kernel_rfl) (fun W hW => x_pick (b := true) rfl rfl) (by kernel_rfl) (by decide) fun a hF => ?_
              refine d_val 9 57 (op := (Go.Op.move (Go.Operand.tmp 56))) hF hS (by kernel_rfl) (fun W hW => x_move rfl) (by kernel_rfl) (by decide) fun a hF => ?_
              refine d_valg 10 58 57 (j := 9) (want := true) (op := (Go.Op.load 24 (Go.Operand.tmp 3))) hF hS (by kernel_rfl) (by kernel_rfl) rfl (fun W hW => x_ldW wide24 (m3_d.k2 hW (by omega)) rfl rfl) (by kernel_rfl) (by decide) fun a hF => ?_
              refine d_valg 11 59 57 (j := 9) (want := true) (op := (Go.Op.load 24 (Go.Operand.tmp 4))) hF hS (by kernel_rfl) (by kernel_rfl) rfl (fun W hW => x_ldW wide24 (m4_d.k2 hW (by omega)) rfl rfl) (by kernel_rfl) (by decide) fun a hF => ?_
              refine d_valg 13 61 57 (j := 9) (want := true) (op := (Go.Op.load 24 (Go.Operand.tmp 7))) hF hS (by kernel_rfl) (by kernel_rfl) rfl (fun W hW => x_ldW wide24 (m7_d.k2 hW (by omega)) rfl rfl) (by kernel_rfl) (by decide) fun a hF => ?_
              refine d_valg 14 62 57 (j := 9) (want := true) (op := (Go.Op.load 24 (Go.Operand.tmp 8))) hF hS (by kernel_rfl) (by kernel_rfl) rfl (fun W hW => x_ldW wide24 (m8_d.k2 hW (by omega)) rfl rfl) (by kernel_rfl) (by decide) fun a hF => ?_
              refine d_oneg 12 57 (some 60) (Go.Op.call (Go.Call.mk (Go.Callee.value (Go.Operand.func 25)) #[(Go.Operand.tmp 58), (Go.Operand.tmp 59)] #[24, 24])) (j := 9) (want := true) hF (by kernel_rfl) (by kernel_rfl) (by kernel_rfl) rfl fun ty pos af => ?_
              refine s_callB [_, _] hF (enters_of Try.func25 (by kernel_rfl) rfl) rfl (by decide) (leqS (RS.below hB hp) (RS.below hB hq) gp gq) fun w50 a B51 hF => ?_
              have sB51 := B51.size
              have hB := hB.trans (B51.mono hB.size)
              have hB7 := hB7.trans (B51.mono hB7.size)
              have m3 := m3.old B51
              have m4 := m4.old B51
              have m7 := m7.old B51
              have m8 := m8.old B51
              have hS := hS.below B51
              rw [h3] at hF
              refine s_end ⟨hS, ?_⟩
              refine d_oneg 15 57 (some 63) (Go.Op.call (Go.Call.mk (Go.Callee.value (Go.Operand.func 25)) #[(Go.Operand.tmp 61), (Go.Operand.tmp 62)] #[24, 24])) (j := 9) (want := true) hF (by kernel_rfl) (by kernel_rfl) (by kernel_rfl) rfl fun ty pos af => ?_
              refine s_callB [_, _] hF (enters_of Try.func25 (by kernel_rfl) rfl) rfl (by decide) (leqS (RS.below hB7 hu) (RS.below hB7 hv) g1 g2) fun w52 a B53 hF => ?_
              have sB53 := B53.size
              have hB := hB.trans (B53.mono hB.size)
              have hB7 := hB7.trans (B53.mono hB7.size)
              have m3 := m3.old B53
              have m4 := m4.old B53
              have m7 := m7.old B53
              have m8 := m8.old B53
              have hS := hS.below B53
              rw [d4, h3] at hF
              refine s_end ⟨hS, ?_⟩
              refine d_valg 16 64 57 (j := 9) (want := true) (op := (Go.Op.binOp Go.BinOp.eql 4 (Go.Operand.tmp 60) (Go.Operand.tmp 63) 4)) hF hS (by kernel_rfl) (by kernel_rfl) rfl (fun W hW => x_eqB (b := true) Try.underlying4 rfl rfl rfl) (by kernel_rfl) (by decide) fun a hF => ?_
              refine d_val 17 65 (op := (Go.Op.pick (Go.Operand.tmp 57) (Go.Operand.tmp 64) (Go.Operand.const (Go.Value.bool false)))) hF hS (by kernel_rfl) (fun W hW => x_pick (b := true) rfl rfl) (by kernel_rfl) (by decide) fun a hF => ?_
              refine d_val 18 66 (op := (Go.Op.move (Go.Operand.tmp 65))) hF hS (by kernel_rfl) (fun W hW => x_move rfl) (by kernel_rfl) (by decide) fun a hF => ?_
              refine d_valg 19 67 66 (j := 18) (want := true) (op := (Go.Op.move (Go.Operand.tmp 2))) hF hS (by kernel_rfl) (by kernel_rfl) rfl (fun W hW => x_move rfl) (by kernel_rfl) (by decide) fun a hF => ?_
              refine d_valg 20 68 66 (j := 18) (want := true) (op := (Go.Op.load 24 (Go.Operand.tmp 3))) hF hS (by kernel_rfl) (by kernel_rfl) rfl (fun W hW => x_ldW wide24 (m3_d.k2 hW (by omega)) rfl rfl) (by kernel_rfl) (by decide) fun a hF => ?_
              refine d_valg 23 71 66 (j := 18) (want := true) (op := (Go.Op.move (Go.Operand.tmp 2))) hF hS (by kernel_rfl) (by kernel_rfl) rfl (fun W hW => x_move rfl) (by kernel_rfl) (by decide) fun a hF => ?_
              refine d_valg 24 72 66 (j := 18) (want := true) (op := (Go.Op.binOp Go.BinOp.add 3 (Go.Operand.tmp 71) (Go.Operand.const (Go.Value.int Go.IntKind.i64 1)) 3)) hF hS (by kernel_rfl) (by kernel_rfl) rfl (fun W hW => x_addn (N + 1) (by omega) (by omega) rfl rfl) (by kernel_rfl) (by decide) fun a hF => ?_
              refine d_valg 25 73 66 (j := 18) (want := true) (op := (Go.Op.load 24 (Go.Operand.tmp 3))) hF hS (by kernel_rfl) (by kernel_rfl) rfl (fun W hW => x_ldW wide24 (m3_d.k2 hW (by omega)) rfl rfl) (by kernel_rfl) (by decide) fun a hF => ?_
              refine d_oneg 21 66 (some 69) (Go.Op.call (Go.Call.mk (Go.Callee.value (Go.Operand.func 33)) #[(Go.Operand.tmp 67), (Go.Operand.tmp 68)] #[3, 24])) (j := 18) (want := true) hF (by kernel_rfl) (by kernel_rfl) (by kernel_rfl) rfl fun ty pos af => ?_
              refine s_callR (R := fun u w' => ∃ z, u = lv z ∧ RSn w' (fun k => w52.heap.size ≤ k) (plusS (N) (p)) z) [_, _] hF (enters_of Try.func33 (by kernel_rfl) rfl) rfl (by decide) (Plus33 (N) (p) x w52 (by omega) (by omega) (RS.below hB hp) fp bp.1 bp.2) ?_
              rintro _ w54 a ⟨t69, rfl, h69n⟩ B55 hF
              have sB55 := B55.size
              have hB := hB.trans (B55.mono hB.size)
              have hB7 := hB7.trans (B55.mono hB7.size)
              have m3 := m3.old B55
              have m4 := m4.old B55
              have m7 := m7.old B55
              have m8 := m8.old B55
              have hS := hS.below B55
              have h69 := h69n.valid
              have h169 := h69n.rs.one1
              refine s_end ⟨hS, ?_⟩
              refine d_oneg 22 66 (some 70) (Go.Op.call (Go.Call.mk (Go.Callee.value (Go.Operand.func 33)) #[(Go.Operand.const (Go.Value.int Go.IntKind.i64 1)), (Go.Operand.tmp 69)] #[3, 24])) (j := 18) (want := true) hF (by kernel_rfl) (by kernel_rfl) (by kernel_rfl) rfl fun ty pos af => ?_
              refine s_callR (R := fun u w' => ∃ z, u = lv z ∧ RSn w' (fun k => w54.heap.size ≤ k) (plusS (1) (plusS N p)) z) [.int .i64 ((1 : Nat) : Int), _] hF (enters_of Try.func33 (by kernel_rfl) rfl) rfl (by decide) (Plus33 (1) (plusS N p) t69 w54 (by omega) (by omega) h69.rs fX bX.1 bX.2) ?_
              rintro _ w56 a ⟨t70, rfl, h70n⟩ B57 hF
              have sB57 := B57.size
              have hB := hB.trans (B57.mono hB.size)
              have hB7 := hB7.trans (B57.mono hB7.size)
              have m3 := m3.old B57
              have m4 := m4.old B57
              have m7 := m7.old B57
              have m8 := m8.old B57
              have h69 := h69.below B57
              have hS := hS.below B57
              have h70 := h70n.valid
              have h170 := h70n.rs.one1
              refine s_end ⟨hS, ?_⟩
              refine d_oneg 26 66 (some 74) (Go.Op.call (Go.Call.mk (Go.Callee.value (Go.Operand.func 33)) #[(Go.Operand.tmp 72), (Go.Operand.tmp 73)] #[3, 24])) (j := 18) (want := true) hF (by kernel_rfl) (by kernel_rfl) (by kernel_rfl) rfl fun ty pos af => ?_
              refine s_callR (R := fun u w' => ∃ z, u = lv z ∧ RSn w' (fun k => w56.heap.size ≤ k) (plusS (N + 1) (p)) z) [_, _] hF (enters_of Try.func33 (by kernel_rfl) rfl) rfl (by decide) (Plus33 (N + 1) (p) x w56 (by omega) (by omega) (RS.below hB hp) fp bp.1 bp.2) ?_
              rintro _ w58 a ⟨t74, rfl, h74n⟩ B59 hF
              have sB59 := B59.size
              have hB := hB.trans (B59.mono hB.size)
              have hB7 := hB7.trans (B59.mono hB7.size)
              have m3 := m3.old B59
              have m4 := m4.old B59
              have m7 := m7.old B59
              have m8 := m8.old B59
              have h69 := h69.below B59
              have h70 := h70.below B59
              have hS := hS.below B59
              have h74 := h74n.valid
              have h174 := h74n.rs.one1
              refine s_end ⟨hS, ?_⟩
              refine d_oneg 27 66 (some 75) (Go.Op.call (Go.Call.mk (Go.Callee.value (Go.Operand.func 23)) #[(Go.Operand.tmp 70), (Go.Operand.tmp 74)] #[24, 24])) (j := 18) (want := true) hF (by kernel_rfl) (by kernel_rfl) (by kernel_rfl) rfl fun ty pos af => ?_
              refine s_callB [_, _] hF (enters_of Try.func23 (by kernel_rfl) rfl) rfl (by decide) (eqS (s := plusS (N + 1) p) (plus_plus lp (by omega : N ≤ 2000) ▸ h70.rs) h74.rs gN gN) fun w60 a B61 hF => ?_
              have sB61 := B61.size
              have hB := hB.trans (B61.mono hB.size)
              have hB7 := hB7.trans (B61.mono hB7.size)
              have m3 := m3.old B61
              have m4 := m4.old B61
              have m7 := m7.old B61
              have m8 := m8.old B61
              have h69 := h69.below B61
              have h70 := h70.below B61
              have h74 := h74.below B61
              have hS := hS.below B61
              rw [d5] at hF
              refine s_end ⟨hS, ?_⟩
              refine d_val 28 76 (op := (Go.Op.pick (Go.Operand.tmp 66) (Go.Operand.tmp 75) (Go.Operand.const (Go.Value.bool false)))) hF hS (by kernel_rfl) (fun W hW => x_pick (b := true) rfl rfl) (by kernel_rfl) (by decide) fun a hF => ?_
              refine d_val 29 77 (op := (Go.Op.move (Go.Operand.tmp 76))) hF hS (by kernel_rfl) (fun W hW => x_move rfl) (by kernel_rfl) (by decide) fun a hF => ?_
              refine d_oneg 30 77 (some 78) (Go.Op.call (Go.Call.mk (Go.Callee.value (Go.Operand.func 15)) #[] #[])) (j := 29) (want := true) hF (by kernel_rfl) (by kernel_rfl) (by kernel_rfl) rfl fun ty pos af => ?_
              refine s_callB [] hF (enters_of Try.func15 (by kernel_rfl) rfl) rfl (by decide) (awake15 w60) fun w62 a B63 hF => ?_
              have sB63 := B63.size
              have hB := hB.trans (B63.mono hB.size)
              have hB7 := hB7.trans (B63.mono hB7.size)
              have m3 := m3.old B63
              have m4 := m4.old B63
              have m7 := m7.old B63
              have m8 := m8.old B63
              have h69 := h69.below B63
              have h70 := h70.below B63
              have h74 := h74.below B63
              have hS := hS.below B63
              refine s_end ⟨hS, ?_⟩
              refine d_val 31 79 (op := (Go.Op.pick (Go.Operand.tmp 77) (Go.Operand.tmp 78) (Go.Operand.const (Go.Value.bool false)))) hF hS (by kernel_rfl) (fun W hW => x_pick (b := true) rfl rfl) (by kernel_rfl) (by decide) fun a hF => ?_
              refine d_val 32 6 (op := (Go.Op.assign (Go.Operand.tmp 79))) hF hS (by kernel_rfl) (fun W hW => x_assign rfl) (by kernel_rfl) (by decide) fun a hF => ?_
              refine d_end (by kernel_rfl) (hK21 _ _ ?_)
              refine wp_ret (res_slot hF rfl rfl ⟨rfl, hB⟩)
            · skip
              refine dk2_seq (w42.heap.size) (w42.heap.size) (ops := regOps Try.f12 7) (N := 33) (by kernel_rfl) wide_orders (by kernel_rfl) fun w64 hw64 B65 hS K22 hK22 => ?_
              have zw64 : w64.heap.size = w42.heap.size := by rw [hw64]
              have sB65 := B65.size
              have hB := hB.trans (B65.mono hB.size)
              have hB7 := hB7.trans (B65.mono hB7.size)
              have m3 := m3.old B65
              have m4 := m4.old B65
              have m7 := m7.old B65
              have m8 := m8.old B65
              have m3_d := m3
              have m4_d := m4
              have m7_d := m7
              have m8_d := m8
              have hB_d := hB
              have hB7_d := hB7
              refine d_val 0 48 (op := (Go.Op.load 24 (Go.Operand.tmp 3))) hF hS (by kernel_rfl) (fun W hW => x_ldW wide24 (m3_d.k2 hW (by omega)) rfl rfl) (by kernel_rfl) (by decide) fun a hF => ?_
              refine d_val 1 49 (op := (Go.Op.load 24 (Go.Operand.tmp 7))) hF hS (by kernel_rfl) (fun W hW => x_ldW wide24 (m7_d.k2 hW (by omega)) rfl rfl) (by kernel_rfl) (by decide) fun a hF => ?_
              refine d_one 2 (some 50) (Go.Op.call (Go.Call.mk (Go.Callee.value (Go.Operand.func 25)) #[(Go.Operand.tmp 48), (Go.Operand.tmp 49)] #[24, 24])) (by kernel_rfl) (by kernel_rfl) fun ty pos af => ?_
              refine s_callB [_, _] hF (enters_of Try.func25 (by kernel_rfl) rfl) rfl (by decide) (leqS (RS.below hB hp) (RS.below hB7 hu) gp g1) fun w66 a B67 hF => ?_
              have sB67 := B67.size
              have hB := hB.trans (B67.mono hB.size)
              have hB7 := hB7.trans (B67.mono hB7.size)
              have m3 := m3.old B67
              have m4 := m4.old B67
              have m7 := m7.old B67
              have m8 := m8.old B67
              have hS := hS.below B67
              rw [d1] at hF
              refine s_end ⟨hS, ?_⟩
              refine d_val 3 51 (op := (Go.Op.move (Go.Operand.tmp 50))) hF hS (by kernel_rfl) (fun W hW => x_move rfl) (by kernel_rfl) (by decide) fun a hF => ?_
              refine d_valg 4 52 51 (j := 3) (want := true) (op := (Go.Op.load 24 (Go.Operand.tmp 7))) hF hS (by kernel_rfl) (by kernel_rfl) rfl (fun W hW => x_ldW wide24 (m7_d.k2 hW (by omega)) rfl rfl) (by kernel_rfl) (by decide) fun a hF => ?_
              refine d_valg 5 53 51 (j := 3) (want := true) (op := (Go.Op.load 24 (Go.Operand.tmp 3))) hF hS (by kernel_rfl) (by kernel_rfl) rfl (fun W hW => x_ldW wide24 (m3_d.k2 hW (by omega)) rfl rfl) (by kernel_rfl) (by decide) fun a hF => ?_
              refine d_oneg 6 51 (some 54) (Go.Op.call (Go.Call.mk (Go.Callee.value (Go.Operand.func 25)) #[(Go.Operand.tmp 52), (Go.Operand.tmp 53)] #[24, 24])) (j := 3) (want := true) hF (by kernel_rfl) (by kernel_rfl) (by kernel_rfl) rfl fun ty pos af => ?_
              refine s_callB [_, _] hF (enters_of Try.func25 (by kernel_rfl) rfl) rfl (by decide) (leqS (RS.below hB7 hu) (RS.below hB hp) g1 gp) fun w68 a B69 hF => ?_
              have sB69 := B69.size
              have hB := hB.trans (B69.mono hB.size)
              have hB7 := hB7.trans (B69.mono hB7.size)
              have m3 := m3.old B69
              have m4 := m4.old B69
              have m7 := m7.old B69
              have m8 := m8.old B69
              have hS := hS.below B69
              rw [d2] at hF
              refine s_end ⟨hS, ?_⟩
              refine d_valg 7 55 51 (j := 3) (want := true) (op := (Go.Op.unOp Go.UnOp.not 4 (Go.Operand.tmp 54))) hF hS (by kernel_rfl) (by kernel_rfl) rfl (fun W hW => x_not rfl) (by kernel_rfl) (by decide) fun a hF => ?_
              refine d_val 8 56 (op := (Go.Op.pick (Go.Operand.tmp 51) (Go.Operand.tmp 55) (Go.Operand.const (Go.Value.bool false)))) hF hS (by kernel_rfl) (fun W hW => x_pick (b := true) rfl rfl) (by kernel_rfl) (by decide) fun a hF => ?_
              refine d_val 9 57 (op := (Go.Op.move (Go.Operand.tmp 56))) hF hS (by kernel_rfl) (fun W hW => x_move rfl) (by kernel_rfl) (by decide) fun a hF => ?_
              refine d_valg 10 58 57 (j := 9) (want := true) (op := (Go.Op.load 24 (Go.Operand.tmp 3))) hF hS (by kernel_rfl) (by kernel_rfl) rfl (fun W hW => x_ldW wide24 (m3_d.k2 hW (by omega)) rfl rfl) (by kernel_rfl) (by decide) fun a hF => ?_
              refine d_valg 11 59 57 (j := 9) (want := true) (op := (Go.Op.load 24 (Go.Operand.tmp 4))) hF hS (by kernel_rfl) (by kernel_rfl) rfl (fun W hW => x_ldW wide24 (m4_d.k2 hW (by omega)) rfl rfl) (by kernel_rfl) (by decide) fun a hF => ?_
              refine d_valg 13 61 57 (j := 9) (want := true) (op := (Go.Op.load 24 (Go.Operand.tmp 7))) hF hS (by kernel_rfl) (by kernel_rfl) rfl (fun W hW => x_ldW wide24 (m7_d.k2 hW (by omega)) rfl rfl) (by kernel_rfl) (by decide) fun a hF => ?_
              refine d_valg 14 62 57 (j := 9) (want := true) (op := (Go.Op.load 24 (Go.Operand.tmp 8))) hF hS (by kernel_rfl) (by kernel_rfl) rfl (fun W hW => x_ldW wide24 (m8_d.k2 hW (by omega)) rfl rfl) (by kernel_rfl) (by decide) fun a hF => ?_
              refine d_oneg 12 57 (some 60) (Go.Op.call (Go.Call.mk (Go.Callee.value (Go.Operand.func 25)) #[(Go.Operand.tmp 58), (Go.Operand.tmp 59)] #[24, 24])) (j := 9) (want := true) hF (by kernel_rfl) (by kernel_rfl) (by kernel_rfl) rfl fun ty pos af => ?_
              refine s_callB [_, _] hF (enters_of Try.func25 (by kernel_rfl) rfl) rfl (by decide) (leqS (RS.below hB hp) (RS.below hB hq) gp gq) fun w70 a B71 hF => ?_
              have sB71 := B71.size
              have hB := hB.trans (B71.mono hB.size)
              have hB7 := hB7.trans (B71.mono hB7.size)
              have m3 := m3.old B71
              have m4 := m4.old B71
              have m7 := m7.old B71
              have m8 := m8.old B71
              have hS := hS.below B71
              rw [h3] at hF
              refine s_end ⟨hS, ?_⟩
              refine d_oneg 15 57 (some 63) (Go.Op.call (Go.Call.mk (Go.Callee.value (Go.Operand.func 25)) #[(Go.Operand.tmp 61), (Go.Operand.tmp 62)] #[24, 24])) (j := 9) (want := true) hF (by kernel_rfl) (by kernel_rfl) (by kernel_rfl) rfl fun ty pos af => ?_
              refine s_callB [_, _] hF (enters_of Try.func25 (by kernel_rfl) rfl) rfl (by decide) (leqS (RS.below hB7 hu) (RS.below hB7 hv) g1 g2) fun w72 a B73 hF => ?_
              have sB73 := B73.size
              have hB := hB.trans (B73.mono hB.size)
              have hB7 := hB7.trans (B73.mono hB7.size)
              have m3 := m3.old B73
              have m4 := m4.old B73
              have m7 := m7.old B73
              have m8 := m8.old B73
              have hS := hS.below B73
              rw [d4, h3] at hF
              refine s_end ⟨hS, ?_⟩
              refine d_valg 16 64 57 (j := 9) (want := true) (op := (Go.Op.binOp Go.BinOp.eql 4 (Go.Operand.tmp 60) (Go.Operand.tmp 63) 4)) hF hS (by kernel_rfl) (by kernel_rfl) rfl (fun W hW => x_eqB (b := true) Try.underlying4 rfl rfl rfl) (by kernel_rfl) (by decide) fun a hF => ?_
              refine d_val 17 65 (op := (Go.Op.pick (Go.Operand.tmp 57) (Go.Operand.tmp 64) (Go.Operand.const (Go.Value.bool false)))) hF hS (by kernel_rfl) (fun W hW => x_pick (b := true) rfl rfl) (by kernel_rfl) (by decide) fun a hF => ?_
              refine d_val 18 66 (op := (Go.Op.move (Go.Operand.tmp 65))) hF hS (by kernel_rfl) (fun W hW => x_move rfl) (by kernel_rfl) (by decide) fun a hF => ?_
              refine d_valg 19 67 66 (j := 18) (want := true) (op := (Go.Op.move (Go.Operand.tmp 2))) hF hS (by kernel_rfl) (by kernel_rfl) rfl (fun W hW => x_move rfl) (by kernel_rfl) (by decide) fun a hF => ?_
              refine d_valg 20 68 66 (j := 18) (want := true) (op := (Go.Op.load 24 (Go.Operand.tmp 3))) hF hS (by kernel_rfl) (by kernel_rfl) rfl (fun W hW => x_ldW wide24 (m3_d.k2 hW (by omega)) rfl rfl) (by kernel_rfl) (by decide) fun a hF => ?_
              refine d_valg 23 71 66 (j := 18) (want := true) (op := (Go.Op.move (Go.Operand.tmp 2))) hF hS (by kernel_rfl) (by kernel_rfl) rfl (fun W hW => x_move rfl) (by kernel_rfl) (by decide) fun a hF => ?_
              refine d_valg 24 72 66 (j := 18) (want := true) (op := (Go.Op.binOp Go.BinOp.add 3 (Go.Operand.tmp 71) (Go.Operand.const (Go.Value.int Go.IntKind.i64 1)) 3)) hF hS (by kernel_rfl) (by kernel_rfl) rfl (fun W hW => x_addn (N + 1) (by omega) (by omega) rfl rfl) (by kernel_rfl) (by decide) fun a hF => ?_
              refine d_valg 25 73 66 (j := 18) (want := true) (op := (Go.Op.load 24 (Go.Operand.tmp 3))) hF hS (by kernel_rfl) (by kernel_rfl) rfl (fun W hW => x_ldW wide24 (m3_d.k2 hW (by omega)) rfl rfl) (by kernel_rfl) (by decide) fun a hF => ?_
              refine d_oneg 21 66 (some 69) (Go.Op.call (Go.Call.mk (Go.Callee.value (Go.Operand.func 33)) #[(Go.Operand.tmp 67), (Go.Operand.tmp 68)] #[3, 24])) (j := 18) (want := true) hF (by kernel_rfl) (by kernel_rfl) (by kernel_rfl) rfl fun ty pos af => ?_
              refine s_callR (R := fun u w' => ∃ z, u = lv z ∧ RSn w' (fun k => w72.heap.size ≤ k) (plusS (N) (p)) z) [_, _] hF (enters_of Try.func33 (by kernel_rfl) rfl) rfl (by decide) (Plus33 (N) (p) x w72 (by omega) (by omega) (RS.below hB hp) fp bp.1 bp.2) ?_
              rintro _ w74 a ⟨t69, rfl, h69n⟩ B75 hF
              have sB75 := B75.size
              have hB := hB.trans (B75.mono hB.size)
              have hB7 := hB7.trans (B75.mono hB7.size)
              have m3 := m3.old B75
              have m4 := m4.old B75
              have m7 := m7.old B75
              have m8 := m8.old B75
              have hS := hS.below B75
              have h69 := h69n.valid
              have h169 := h69n.rs.one1
              refine s_end ⟨hS, ?_⟩
              refine d_oneg 22 66 (some 70) (Go.Op.call (Go.Call.mk (Go.Callee.value (Go.Operand.func 33)) #[(Go.Operand.const (Go.Value.int Go.IntKind.i64 1)), (Go.Operand.tmp 69)] #[3, 24])) (j := 18) (want := true) hF (by kernel_rfl) (by kernel_rfl) (by kernel_rfl) rfl fun ty pos af => ?_
              refine s_callR (R := fun u w' => ∃ z, u = lv z ∧ RSn w' (fun k => w74.heap.size ≤ k) (plusS (1) (plusS N p)) z) [.int .i64 ((1 : Nat) : Int), _] hF (enters_of Try.func33 (by kernel_rfl) rfl) rfl (by decide) (Plus33 (1) (plusS N p) t69 w74 (by omega) (by omega) h69.rs fX bX.1 bX.2) ?_
              rintro _ w76 a ⟨t70, rfl, h70n⟩ B77 hF
              have sB77 := B77.size
              have hB := hB.trans (B77.mono hB.size)
              have hB7 := hB7.trans (B77.mono hB7.size)
              have m3 := m3.old B77
              have m4 := m4.old B77
              have m7 := m7.old B77
              have m8 := m8.old B77
              have h69 := h69.below B77
              have hS := hS.below B77
              have h70 := h70n.valid
              have h170 := h70n.rs.one1
              refine s_end ⟨hS, ?_⟩
              refine d_oneg 26 66 (some 74) (Go.Op.call (Go.Call.mk (Go.Callee.value (Go.Operand.func 33)) #[(Go.Operand.tmp 72), (Go.Operand.tmp 73)] #[3, 24])) (j := 18) (want := true) hF (by kernel_rfl) (by kernel_rfl) (by kernel_rfl) rfl fun ty pos af => ?_
              refine s_callR (R := fun u w' => ∃ z, u = lv z ∧ RSn w' (fun k => w76.heap.size ≤ k) (plusS (N + 1) (p)) z) [_, _] hF (enters_of Try.func33 (by kernel_rfl) rfl) rfl (by decide) (Plus33 (N + 1) (p) x w76 (by omega) (by omega) (RS.below hB hp) fp bp.1 bp.2) ?_
              rintro _ w78 a ⟨t74, rfl, h74n⟩ B79 hF
              have sB79 := B79.size
              have hB := hB.trans (B79.mono hB.size)
              have hB7 := hB7.trans (B79.mono hB7.size)
              have m3 := m3.old B79
              have m4 := m4.old B79
              have m7 := m7.old B79
              have m8 := m8.old B79
              have h69 := h69.below B79
              have h70 := h70.below B79
              have hS := hS.below B79
              have h74 := h74n.valid
              have h174 := h74n.rs.one1
              refine s_end ⟨hS, ?_⟩
              refine d_oneg 27 66 (some 75) (Go.Op.call (Go.Call.mk (Go.Callee.value (Go.Operand.func 23)) #[(Go.Operand.tmp 70), (Go.Operand.tmp 74)] #[24, 24])) (j := 18) (want := true) hF (by kernel_rfl) (by kernel_rfl) (by kernel_rfl) rfl fun ty pos af => ?_
              refine s_callB [_, _] hF (enters_of Try.func23 (by kernel_rfl) rfl) rfl (by decide) (eqS (s := plusS (N + 1) p) (plus_plus lp (by omega : N ≤ 2000) ▸ h70.rs) h74.rs gN gN) fun w80 a B81 hF => ?_
              have sB81 := B81.size
              have hB := hB.trans (B81.mono hB.size)
              have hB7 := hB7.trans (B81.mono hB7.size)
              have m3 := m3.old B81
              have m4 := m4.old B81
              have m7 := m7.old B81
              have m8 := m8.old B81
              have h69 := h69.below B81
              have h70 := h70.below B81
              have h74 := h74.below B81
              have hS := hS.below B81
              rw [d5] at hF
              refine s_end ⟨hS, ?_⟩
              refine d_val 28 76 (op := (Go.Op.pick (Go.Operand.tmp 66) (Go.Operand.tmp 75) (Go.Operand.const (Go.Value.bool false)))) hF hS (by kernel_rfl) (fun W hW => x_pick (b := true) rfl rfl) (by kernel_rfl) (by decide) fun a hF => ?_
              refine d_val 29 77 (op := (Go.Op.move (Go.Operand.tmp 76))) hF hS (by kernel_rfl) (fun W hW => x_move rfl) (by kernel_rfl) (by decide) fun a hF => ?_
              refine d_oneg 30 77 (some 78) (Go.Op.call (Go.Call.mk (Go.Callee.value (Go.Operand.func 15)) #[] #[])) (j := 29) (want := true) hF (by kernel_rfl) (by kernel_rfl) (by kernel_rfl) rfl fun ty pos af => ?_
              refine s_callB [] hF (enters_of Try.func15 (by kernel_rfl) rfl) rfl (by decide) (awake15 w80) fun w82 a B83 hF => ?_
              have sB83 := B83.size
              have hB := hB.trans (B83.mono hB.size)
              have hB7 := hB7.trans (B83.mono hB7.size)
              have m3 := m3.old B83
              have m4 := m4.old B83
              have m7 := m7.old B83
              have m8 := m8.old B83
              have h69 := h69.below B83
              have h70 := h70.below B83
              have h74 := h74.below B83
              have hS := hS.below B83
              refine s_end ⟨hS, ?_⟩
              refine d_val 31 79 (op := (Go.Op.pick (Go.Operand.tmp 77) (Go.Operand.tmp 78) (Go.Operand.const (Go.Value.bool false)))) hF hS (by kernel_rfl) (fun W hW => x_pick (b := true) rfl rfl) (by kernel_rfl) (by decide) fun a hF => ?_
              refine d_val 32 6 (op := (Go.Op.assign (Go.Operand.tmp 79))) hF hS (by kernel_rfl) (fun W hW => x_assign rfl) (by kernel_rfl) (by decide) fun a hF => ?_
              refine d_end (by kernel_rfl) (hK22 _ _ ?_)
              refine wp_ret (res_slot hF rfl rfl ⟨rfl, hB⟩)
        refine d_val 0 33 (op := (Go.Op.move (Go.Operand.tmp 2))) hF hS (by kernel_rfl) (fun W hW => x_move rfl) (by kernel_rfl) (by decide) fun a hF => ?_
        refine d_val 1 34 (op := (Go.Op.load 24 (Go.Operand.tmp 3))) hF hS (by kernel_rfl) (fun W hW => x_ldW wide24 (m3_d.k2 hW (by omega)) rfl rfl) (by kernel_rfl) (by decide) fun a hF => ?_
        refine d_val 3 36 (op := (Go.Op.move (Go.Operand.tmp 2))) hF hS (by kernel_rfl) (fun W hW => x_move rfl) (by kernel_rfl) (by decide) fun a hF => ?_
        refine d_val 4 37 (op := (Go.Op.load 24 (Go.Operand.tmp 4))) hF hS (by kernel_rfl) (fun W hW => x_ldW wide24 (m4_d.k2 hW (by omega)) rfl rfl) (by kernel_rfl) (by decide) fun a hF => ?_
        refine d_three 2 6 7 (by kernel_rfl) ?_ ?_ ?_
        · refine d_op 2 (some 35) (Go.Op.call (Go.Call.mk (Go.Callee.value (Go.Operand.func 33)) #[(Go.Operand.tmp 33), (Go.Operand.tmp 34)] #[3, 24])) (by kernel_rfl) fun ty pos af => ?_
          refine s_callR (R := fun u w' => ∃ z, u = lv z ∧ RSn w' (fun k => w28.heap.size ≤ k) (plusS (N) (p)) z) [_, _] hF (enters_of Try.func33 (by kernel_rfl) rfl) rfl (by decide) (Plus33 (N) (p) x w28 (by omega) (by omega) (RS.below hB hp) fp bp.1 bp.2) ?_
          rintro _ w84 a ⟨t35, rfl, h35n⟩ B85 hF
          have sB85 := B85.size
          have hB := hB.trans (B85.mono hB.size)
          have m3 := m3.old B85
          have m4 := m4.old B85
          have hS := hS.below B85
          have h35 := h35n.valid
          have h135 := h35n.rs.one1
          refine s_end ⟨hS, ?_⟩
          refine d_three 5 6 7 (by kernel_rfl) ?_ ?_ ?_
          · refine d_op 5 (some 38) (Go.Op.call (Go.Call.mk (Go.Callee.value (Go.Operand.func 33)) #[(Go.Operand.tmp 36), (Go.Operand.tmp 37)] #[3, 24])) (by kernel_rfl) fun ty pos af => ?_
            refine s_callR (R := fun u w' => ∃ z, u = lv z ∧ RSn w' (fun k => w84.heap.size ≤ k) (plusS (N) (q)) z) [_, _] hF (enters_of Try.func33 (by kernel_rfl) rfl) rfl (by decide) (Plus33 (N) (q) y w84 (by omega) (by omega) (RS.below hB hq) fq bq.1 bq.2) ?_
            rintro _ w86 a ⟨t38, rfl, h38n⟩ B87 hF
            have sB87 := B87.size
            have hB := hB.trans (B87.mono hB.size)
            have m3 := m3.old B87
            have m4 := m4.old B87
            have h35 := h35.below B87
            have hS := hS.below B87
            have h38 := h38n.valid
            have h138 := h38n.rs.one1
            refine s_end ⟨hS, ?_⟩
            refine d_two 6 7 (by kernel_rfl) ?_ ?_
            · refine d_op 6 (some 7) (Go.Op.alloc 24) (by kernel_rfl) fun ty pos af => ?_
              refine s_alloc hF (by decide) zero24 fun w88 b7 a eb7 m7 B89 zb7 hF => ?_
              have sB89 := B89.size
              have hB := hB.trans (B89.mono hB.size)
              have m3 := m3.old B89
              have m4 := m4.old B89
              have h35 := h35.below B89
              have h38 := h38.below B89
              have hS := hS.below B89
              refine s_end ⟨hS, ?_⟩
              refine d_one 7 (some 8) (Go.Op.alloc 24) (by kernel_rfl) (by kernel_rfl) fun ty pos af => ?_
              refine s_alloc hF (by decide) zero24 fun w90 b8 a eb8 m8 B91 zb8 hF => ?_
              have sB91 := B91.size
              have hB := hB.trans (B91.mono hB.size)
              have m3 := m3.old B91
              have m4 := m4.old B91
              have h35 := h35.below B91
              have h38 := h38.below B91
              have m7 := m7.old B91
              have hS := hS.below B91
              refine s_end ⟨hS, ?_⟩
              refine d_one 8 none (Go.Op.store 24 (Go.Operand.tmp 7) (Go.Operand.tmp 35)) (by kernel_rfl) (by kernel_rfl) fun ty pos af => ?_
              refine s_putW hF rfl rfl (size_wide wide24) m7 rfl (one_lc h135) fun w92 m7 o93 => ?_
              have so93 := o93.size
              have hB := hB.trans (o93.below (by omega))
              have m3 := m3.only o93 (by omega)
              have m4 := m4.only o93 (by omega)
              have h35 := h35.only o93 (fun k (hk : w28.heap.size ≤ k ∧ k < w84.heap.size) => by omega)
              have h38 := h38.only o93 (fun k (hk : w84.heap.size ≤ k ∧ k < w86.heap.size) => by omega)
              have m8 := m8.only o93 (by omega)
              have hS := hS.only o93 (by omega)
              refine s_end ⟨hS, ?_⟩
              refine d_one 9 none (Go.Op.store 24 (Go.Operand.tmp 8) (Go.Operand.tmp 38)) (by kernel_rfl) (by kernel_rfl) fun ty pos af => ?_
              refine s_putW hF rfl rfl (size_wide wide24) m8 rfl (one_lc h138) fun w94 m8 o95 => ?_
              have so95 := o95.size
              have hB := hB.trans (o95.below (by omega))
              have m3 := m3.only o95 (by omega)
              have m4 := m4.only o95 (by omega)
              have h35 := h35.only o95 (fun k (hk : w28.heap.size ≤ k ∧ k < w84.heap.size) => by omega)
              have h38 := h38.only o95 (fun k (hk : w84.heap.size ≤ k ∧ k < w86.heap.size) => by omega)
              have m7 := m7.only o95 (by omega)
              have hS := hS.only o95 (by omega)
              refine s_end ⟨hS, ?_⟩
              refine d_end (by kernel_rfl) ?_
              exact key12 _ _ _ _ _ _ hB m3 m4 m7 m8 h35.rs h38.rs (hF.sub _ rfl)
            · refine d_op 7 (some 8) (Go.Op.alloc 24) (by kernel_rfl) fun ty pos af => ?_
              refine s_alloc hF (by decide) zero24 fun w96 b8 a eb8 m8 B97 zb8 hF => ?_
              have sB97 := B97.size
              have hB := hB.trans (B97.mono hB.size)
              have m3 := m3.old B97
              have m4 := m4.old B97
              have h35 := h35.below B97
              have h38 := h38.below B97
              have hS := hS.below B97
              refine s_end ⟨hS, ?_⟩
              refine d_one 6 (some 7) (Go.Op.alloc 24) (by kernel_rfl) (by kernel_rfl) fun ty pos af => ?_
              refine s_alloc hF (by decide) zero24 fun w98 b7 a eb7 m7 B99 zb7 hF => ?_
              have sB99 := B99.size
              have hB := hB.trans (B99.mono hB.size)
              have m3 := m3.old B99
              have m4 := m4.old B99
              have h35 := h35.below B99
              have h38 := h38.below B99
              have m8 := m8.old B99
              have hS := hS.below B99
              refine s_end ⟨hS, ?_⟩
              refine d_one 8 none (Go.Op.store 24 (Go.Operand.tmp 7) (Go.Operand.tmp 35)) (by kernel_rfl) (by kernel_rfl) fun ty pos af => ?_
              refine s_putW hF rfl rfl (size_wide wide24) m7 rfl (one_lc h135) fun w100 m7 o101 => ?_
              have so101 := o101.size
              have hB := hB.trans (o101.below (by omega))
              have m3 := m3.only o101 (by omega)
              have m4 := m4.only o101 (by omega)
              have h35 := h35.only o101 (fun k (hk : w28.heap.size ≤ k ∧ k < w84.heap.size) => by omega)
              have h38 := h38.only o101 (fun k (hk : w84.heap.size ≤ k ∧ k < w86.heap.size) => by omega)
              have m8 := m8.only o101 (by omega)
              have hS := hS.only o101 (by omega)
              refine s_end ⟨hS, ?_⟩
              refine d_one 9 none (Go.Op.store 24 (Go.Operand.tmp 8) (Go.Operand.tmp 38)) (by kernel_rfl) (by kernel_rfl) fun ty pos af => ?_
              refine s_putW hF rfl rfl (size_wide wide24) m8 rfl (one_lc h138) fun w102 m8 o103 => ?_
              have so103 := o103.size
              have hB := hB.trans (o103.below (by omega))
              have m3 := m3.only o103 (by omega)
              have m4 := m4.only o103 (by omega)
              have h35 := h35.only o103 (fun k (hk : w28.heap.size ≤ k ∧ k < w84.heap.size) => by omega)
              have h38 := h38.only o103 (fun k (hk : w84.heap.size ≤ k ∧ k < w86.heap.size) => by omega)
              have m7 := m7.only o103 (by omega)
              have hS := hS.only o103 (by omega)
              refine s_end ⟨hS, ?_⟩
              refine d_end (by kernel_rfl) ?_
              exact key12 _ _ _ _ _ _ hB m3 m4 m7 m8 h35.rs h38.rs (hF.sub _ rfl)
          · refine d_op 6 (some 7) (Go.Op.alloc 24) (by kernel_rfl) fun ty pos af => ?_
            refine s_alloc hF (by decide) zero24 fun w104 b7 a eb7 m7 B105 zb7 hF => ?_
            have sB105 := B105.size
            have hB := hB.trans (B105.mono hB.size)
            have m3 := m3.old B105
            have m4 := m4.old B105
            have h35 := h35.below B105
            have hS := hS.below B105
            refine s_end ⟨hS, ?_⟩
            refine d_two 5 7 (by kernel_rfl) ?_ ?_
            · refine d_op 5 (some 38) (Go.Op.call (Go.Call.mk (Go.Callee.value (Go.Operand.func 33)) #[(Go.Operand.tmp 36), (Go.Operand.tmp 37)] #[3, 24])) (by kernel_rfl) fun ty pos af => ?_
              refine s_callR (R := fun u w' => ∃ z, u = lv z ∧ RSn w' (fun k => w104.heap.size ≤ k) (plusS (N) (q)) z) [_, _] hF (enters_of Try.func33 (by kernel_rfl) rfl) rfl (by decide) (Plus33 (N) (q) y w104 (by omega) (by omega) (RS.below hB hq) fq bq.1 bq.2) ?_
              rintro _ w106 a ⟨t38, rfl, h38n⟩ B107 hF
              have sB107 := B107.size
              have hB := hB.trans (B107.mono hB.size)
              have m3 := m3.old B107
              have m4 := m4.old B107
              have h35 := h35.below B107
              have m7 := m7.old B107
              have hS := hS.below B107
              have h38 := h38n.valid
              have h138 := h38n.rs.one1
              refine s_end ⟨hS, ?_⟩
              refine d_one 7 (some 8) (Go.Op.alloc 24) (by kernel_rfl) (by kernel_rfl) fun ty pos af => ?_
              refine s_alloc hF (by decide) zero24 fun w108 b8 a eb8 m8 B109 zb8 hF => ?_
              have sB109 := B109.size
              have hB := hB.trans (B109.mono hB.size)
              have m3 := m3.old B109
              have m4 := m4.old B109
              have h35 := h35.below B109
              have m7 := m7.old B109
              have h38 := h38.below B109
              have hS := hS.below B109
              refine s_end ⟨hS, ?_⟩
              refine d_one 8 none (Go.Op.store 24 (Go.Operand.tmp 7) (Go.Operand.tmp 35)) (by kernel_rfl) (by kernel_rfl) fun ty pos af => ?_
              refine s_putW hF rfl rfl (size_wide wide24) m7 rfl (one_lc h135) fun w110 m7 o111 => ?_
              have so111 := o111.size
              have hB := hB.trans (o111.below (by omega))
              have m3 := m3.only o111 (by omega)
              have m4 := m4.only o111 (by omega)
              have h35 := h35.only o111 (fun k (hk : w28.heap.size ≤ k ∧ k < w84.heap.size) => by omega)
              have h38 := h38.only o111 (fun k (hk : w104.heap.size ≤ k ∧ k < w106.heap.size) => by omega)
              have m8 := m8.only o111 (by omega)
              have hS := hS.only o111 (by omega)
              refine s_end ⟨hS, ?_⟩
              refine d_one 9 none (Go.Op.store 24 (Go.Operand.tmp 8) (Go.Operand.tmp 38)) (by kernel_rfl) (by kernel_rfl) fun ty pos af => ?_
              refine s_putW hF rfl rfl (size_wide wide24) m8 rfl (one_lc h138) fun w112 m8 o113 => ?_
              have so113 := o113.size
              have hB := hB.trans (o113.below (by omega))
              have m3 := m3.only o113 (by omega)
              have m4 := m4.only o113 (by omega)
              have h35 := h35.only o113 (fun k (hk : w28.heap.size ≤ k ∧ k < w84.heap.size) => by omega)
              have m7 := m7.only o113 (by omega)
              have h38 := h38.only o113 (fun k (hk : w104.heap.size ≤ k ∧ k < w106.heap.size) => by omega)
              have hS := hS.only o113 (by omega)
              refine s_end ⟨hS, ?_⟩
              refine d_end (by kernel_rfl) ?_
              exact key12 _ _ _ _ _ _ hB m3 m4 m7 m8 h35.rs h38.rs (hF.sub _ rfl)
            · refine d_op 7 (some 8) (Go.Op.alloc 24) (by kernel_rfl) fun ty pos af => ?_
              refine s_alloc hF (by decide) zero24 fun w114 b8 a eb8 m8 B115 zb8 hF => ?_
              have sB115 := B115.size
              have hB := hB.trans (B115.mono hB.size)
              have m3 := m3.old B115
              have m4 := m4.old B115
              have h35 := h35.below B115
              have m7 := m7.old B115
              have hS := hS.below B115
              refine s_end ⟨hS, ?_⟩
              refine d_one 5 (some 38) (Go.Op.call (Go.Call.mk (Go.Callee.value (Go.Operand.func 33)) #[(Go.Operand.tmp 36), (Go.Operand.tmp 37)] #[3, 24])) (by kernel_rfl) (by kernel_rfl) fun ty pos af => ?_
              refine s_callR (R := fun u w' => ∃ z, u = lv z ∧ RSn w' (fun k => w114.heap.size ≤ k) (plusS (N) (q)) z) [_, _] hF (enters_of Try.func33 (by kernel_rfl) rfl) rfl (by decide) (Plus33 (N) (q) y w114 (by omega) (by omega) (RS.below hB hq) fq bq.1 bq.2) ?_
              rintro _ w116 a ⟨t38, rfl, h38n⟩ B117 hF
              have sB117 := B117.size
              have hB := hB.trans (B117.mono hB.size)
              have m3 := m3.old B117
              have m4 := m4.old B117
              have h35 := h35.below B117
              have m7 := m7.old B117
              have m8 := m8.old B117
              have hS := hS.below B117
              have h38 := h38n.valid
              have h138 := h38n.rs.one1
              refine s_end ⟨hS, ?_⟩
              refine d_one 8 none (Go.Op.store 24 (Go.Operand.tmp 7) (Go.Operand.tmp 35)) (by kernel_rfl) (by kernel_rfl) fun ty pos af => ?_
              refine s_putW hF rfl rfl (size_wide wide24) m7 rfl (one_lc h135) fun w118 m7 o119 => ?_
              have so119 := o119.size
              have hB := hB.trans (o119.below (by omega))
              have m3 := m3.only o119 (by omega)
              have m4 := m4.only o119 (by omega)
              have h35 := h35.only o119 (fun k (hk : w28.heap.size ≤ k ∧ k < w84.heap.size) => by omega)
              have m8 := m8.only o119 (by omega)
              have h38 := h38.only o119 (fun k (hk : w114.heap.size ≤ k ∧ k < w116.heap.size) => by omega)
              have hS := hS.only o119 (by omega)
              refine s_end ⟨hS, ?_⟩
              refine d_one 9 none (Go.Op.store 24 (Go.Operand.tmp 8) (Go.Operand.tmp 38)) (by kernel_rfl) (by kernel_rfl) fun ty pos af => ?_
              refine s_putW hF rfl rfl (size_wide wide24) m8 rfl (one_lc h138) fun w120 m8 o121 => ?_
              have so121 := o121.size
              have hB := hB.trans (o121.below (by omega))
              have m3 := m3.only o121 (by omega)
              have m4 := m4.only o121 (by omega)
              have h35 := h35.only o121 (fun k (hk : w28.heap.size ≤ k ∧ k < w84.heap.size) => by omega)
              have m7 := m7.only o121 (by omega)
              have h38 := h38.only o121 (fun k (hk : w114.heap.size ≤ k ∧ k < w116.heap.size) => by omega)
              have hS := hS.only o121 (by omega)
              refine s_end ⟨hS, ?_⟩
              refine d_end (by kernel_rfl) ?_
              exact key12 _ _ _ _ _ _ hB m3 m4 m7 m8 h35.rs h38.rs (hF.sub _ rfl)
          · refine d_op 7 (some 8) (Go.Op.alloc 24) (by kernel_rfl) fun ty pos af => ?_
            refine s_alloc hF (by decide) zero24 fun w122 b8 a eb8 m8 B123 zb8 hF => ?_
            have sB123 := B123.size
            have hB := hB.trans (B123.mono hB.size)
            have m3 := m3.old B123
            have m4 := m4.old B123
            have h35 := h35.below B123
            have hS := hS.below B123
            refine s_end ⟨hS, ?_⟩
            refine d_two 5 6 (by kernel_rfl) ?_ ?_
            · refine d_op 5 (some 38) (Go.Op.call (Go.Call.mk (Go.Callee.value (Go.Operand.func 33)) #[(Go.Operand.tmp 36), (Go.Operand.tmp 37)] #[3, 24])) (by kernel_rfl) fun ty pos af => ?_
              refine s_callR (R := fun u w' => ∃ z, u = lv z ∧ RSn w' (fun k => w122.heap.size ≤ k) (plusS (N) (q)) z) [_, _] hF (enters_of Try.func33 (by kernel_rfl) rfl) rfl (by decide) (Plus33 (N) (q) y w122 (by omega) (by omega) (RS.below hB hq) fq bq.1 bq.2) ?_
              rintro _ w124 a ⟨t38, rfl, h38n⟩ B125 hF
              have sB125 := B125.size
              have hB := hB.trans (B125.mono hB.size)
              have m3 := m3.old B125
              have m4 := m4.old B125
              have h35 := h35.below B125
              have m8 := m8.old B125
              have hS := hS.below B125
              have h38 := h38n.valid
              have h138 := h38n.rs.one1
              refine s_end ⟨hS, ?_⟩
              refine d_one 6 (some 7) (Go.Op.alloc 24) (by kernel_rfl) (by kernel_rfl) fun ty pos af => ?_
              refine s_alloc hF (by decide) zero24 fun w126 b7 a eb7 m7 B127 zb7 hF => ?_
              have sB127 := B127.size
              have hB := hB.trans (B127.mono hB.size)
              have m3 := m3.old B127
              have m4 := m4.old B127
              have h35 := h35.below B127
              have m8 := m8.old B127
              have h38 := h38.below B127
              have hS := hS.below B127
              refine s_end ⟨hS, ?_⟩
              refine d_one 8 none (Go.Op.store 24 (Go.Operand.tmp 7) (Go.Operand.tmp 35)) (by kernel_rfl) (by kernel_rfl) fun ty pos af => ?_
              refine s_putW hF rfl rfl (size_wide wide24) m7 rfl (one_lc h135) fun w128 m7 o129 => ?_
              have so129 := o129.size
              have hB := hB.trans (o129.below (by omega))
              have m3 := m3.only o129 (by omega)
              have m4 := m4.only o129 (by omega)
              have h35 := h35.only o129 (fun k (hk : w28.heap.size ≤ k ∧ k < w84.heap.size) => by omega)
              have m8 := m8.only o129 (by omega)
              have h38 := h38.only o129 (fun k (hk : w122.heap.size ≤ k ∧ k < w124.heap.size) => by omega)
              have hS := hS.only o129 (by omega)
              refine s_end ⟨hS, ?_⟩
              refine d_one 9 none (Go.Op.store 24 (Go.Operand.tmp 8) (Go.Operand.tmp 38)) (by kernel_rfl) (by kernel_rfl) fun ty pos af => ?_
              refine s_putW hF rfl rfl (size_wide wide24) m8 rfl (one_lc h138) fun w130 m8 o131 => ?_
              have so131 := o131.size
              have hB := hB.trans (o131.below (by omega))
              have m3 := m3.only o131 (by omega)
              have m4 := m4.only o131 (by omega)
              have h35 := h35.only o131 (fun k (hk : w28.heap.size ≤ k ∧ k < w84.heap.size) => by omega)
              have h38 := h38.only o131 (fun k (hk : w122.heap.size ≤ k ∧ k < w124.heap.size) => by omega)
              have m7 := m7.only o131 (by omega)
              have hS := hS.only o131 (by omega)
              refine s_end ⟨hS, ?_⟩
              refine d_end (by kernel_rfl) ?_
              exact key12 _ _ _ _ _ _ hB m3 m4 m7 m8 h35.rs h38.rs (hF.sub _ rfl)
            · refine d_op 6 (some 7) (Go.Op.alloc 24) (by kernel_rfl) fun ty pos af => ?_
              refine s_alloc hF (by decide) zero24 fun w132 b7 a eb7 m7 B133 zb7 hF => ?_
              have sB133 := B133.size
              have hB := hB.trans (B133.mono hB.size)
              have m3 := m3.old B133
              have m4 := m4.old B133
              have h35 := h35.below B133
              have m8 := m8.old B133
              have hS := hS.below B133
              refine s_end ⟨hS, ?_⟩
              refine d_one 5 (some 38) (Go.Op.call (Go.Call.mk (Go.Callee.value (Go.Operand.func 33)) #[(Go.Operand.tmp 36), (Go.Operand.tmp 37)] #[3, 24])) (by kernel_rfl) (by kernel_rfl) fun ty pos af => ?_
              refine s_callR (R := fun u w' => ∃ z, u = lv z ∧ RSn w' (fun k => w132.heap.size ≤ k) (plusS (N) (q)) z) [_, _] hF (enters_of Try.func33 (by kernel_rfl) rfl) rfl (by decide) (Plus33 (N) (q) y w132 (by omega) (by omega) (RS.below hB hq) fq bq.1 bq.2) ?_
              rintro _ w134 a ⟨t38, rfl, h38n⟩ B135 hF
              have sB135 := B135.size
              have hB := hB.trans (B135.mono hB.size)
              have m3 := m3.old B135
              have m4 := m4.old B135
              have h35 := h35.below B135
              have m8 := m8.old B135
              have m7 := m7.old B135
              have hS := hS.below B135
              have h38 := h38n.valid
              have h138 := h38n.rs.one1
              refine s_end ⟨hS, ?_⟩
              refine d_one 8 none (Go.Op.store 24 (Go.Operand.tmp 7) (Go.Operand.tmp 35)) (by kernel_rfl) (by kernel_rfl) fun ty pos af => ?_
              refine s_putW hF rfl rfl (size_wide wide24) m7 rfl (one_lc h135) fun w136 m7 o137 => ?_
              have so137 := o137.size
              have hB := hB.trans (o137.below (by omega))
              have m3 := m3.only o137 (by omega)
              have m4 := m4.only o137 (by omega)
              have h35 := h35.only o137 (fun k (hk : w28.heap.size ≤ k ∧ k < w84.heap.size) => by omega)
              have m8 := m8.only o137 (by omega)
              have h38 := h38.only o137 (fun k (hk : w132.heap.size ≤ k ∧ k < w134.heap.size) => by omega)
              have hS := hS.only o137 (by omega)
              refine s_end ⟨hS, ?_⟩
              refine d_one 9 none (Go.Op.store 24 (Go.Operand.tmp 8) (Go.Operand.tmp 38)) (by kernel_rfl) (by kernel_rfl) fun ty pos af => ?_
              refine s_putW hF rfl rfl (size_wide wide24) m8 rfl (one_lc h138) fun w138 m8 o139 => ?_
              have so139 := o139.size
              have hB := hB.trans (o139.below (by omega))
              have m3 := m3.only o139 (by omega)
              have m4 := m4.only o139 (by omega)
              have h35 := h35.only o139 (fun k (hk : w28.heap.size ≤ k ∧ k < w84.heap.size) => by omega)
              have m7 := m7.only o139 (by omega)
              have h38 := h38.only o139 (fun k (hk : w132.heap.size ≤ k ∧ k < w134.heap.size) => by omega)
              have hS := hS.only o139 (by omega)
              refine s_end ⟨hS, ?_⟩
              refine d_end (by kernel_rfl) ?_
              exact key12 _ _ _ _ _ _ hB m3 m4 m7 m8 h35.rs h38.rs (hF.sub _ rfl)
        · refine d_op 6 (some 7) (Go.Op.alloc 24) (by kernel_rfl) fun ty pos af => ?_
          refine s_alloc hF (by decide) zero24 fun w140 b7 a eb7 m7 B141 zb7 hF => ?_
          have sB141 := B141.size
          have hB := hB.trans (B141.mono hB.size)
          have m3 := m3.old B141
          have m4 := m4.old B141
          have hS := hS.below B141
          refine s_end ⟨hS, ?_⟩
          refine d_two 2 7 (by kernel_rfl) ?_ ?_
          · refine d_op 2 (some 35) (Go.Op.call (Go.Call.mk (Go.Callee.value (Go.Operand.func 33)) #[(Go.Operand.tmp 33), (Go.Operand.tmp 34)] #[3, 24])) (by kernel_rfl) fun ty pos af => ?_
            refine s_callR (R := fun u w' => ∃ z, u = lv z ∧ RSn w' (fun k => w140.heap.size ≤ k) (plusS (N) (p)) z) [_, _] hF (enters_of Try.func33 (by kernel_rfl) rfl) rfl (by decide) (Plus33 (N) (p) x w140 (by omega) (by omega) (RS.below hB hp) fp bp.1 bp.2) ?_
            rintro _ w142 a ⟨t35, rfl, h35n⟩ B143 hF
            have sB143 := B143.size
            have hB := hB.trans (B143.mono hB.size)
            have m3 := m3.old B143
            have m4 := m4.old B143
            have m7 := m7.old B143
            have hS := hS.below B143
            have h35 := h35n.valid
            have h135 := h35n.rs.one1
            refine s_end ⟨hS, ?_⟩
            refine d_two 5 7 (by kernel_rfl) ?_ ?_
            · refine d_op 5 (some 38) (Go.Op.call (Go.Call.mk (Go.Callee.value (Go.Operand.func 33)) #[(Go.Operand.tmp 36), (Go.Operand.tmp 37)] #[3, 24])) (by kernel_rfl) fun ty pos af => ?_
              refine s_callR (R := fun u w' => ∃ z, u = lv z ∧ RSn w' (fun k => w142.heap.size ≤ k) (plusS (N) (q)) z) [_, _] hF (enters_of Try.func33 (by kernel_rfl) rfl) rfl (by decide) (Plus33 (N) (q) y w142 (by omega) (by omega) (RS.below hB hq) fq bq.1 bq.2) ?_
              rintro _ w144 a ⟨t38, rfl, h38n⟩ B145 hF
              have sB145 := B145.size
              have hB := hB.trans (B145.mono hB.size)
              have m3 := m3.old B145
              have m4 := m4.old B145
              have m7 := m7.old B145
              have h35 := h35.below B145
              have hS := hS.below B145
              have h38 := h38n.valid
              have h138 := h38n.rs.one1
              refine s_end ⟨hS, ?_⟩
              refine d_one 7 (some 8) (Go.Op.alloc 24) (by kernel_rfl) (by kernel_rfl) fun ty pos af => ?_
              refine s_alloc hF (by decide) zero24 fun w146 b8 a eb8 m8 B147 zb8 hF => ?_
              have sB147 := B147.size
              have hB := hB.trans (B147.mono hB.size)
              have m3 := m3.old B147
              have m4 := m4.old B147
              have m7 := m7.old B147
              have h35 := h35.below B147
              have h38 := h38.below B147
              have hS := hS.below B147
              refine s_end ⟨hS, ?_⟩
              refine d_one 8 none (Go.Op.store 24 (Go.Operand.tmp 7) (Go.Operand.tmp 35)) (by kernel_rfl) (by kernel_rfl) fun ty pos af => ?_
              refine s_putW hF rfl rfl (size_wide wide24) m7 rfl (one_lc h135) fun w148 m7 o149 => ?_
              have so149 := o149.size
              have hB := hB.trans (o149.below (by omega))
              have m3 := m3.only o149 (by omega)
              have m4 := m4.only o149 (by omega)
              have h35 := h35.only o149 (fun k (hk : w140.heap.size ≤ k ∧ k < w142.heap.size) => by omega)
              have h38 := h38.only o149 (fun k (hk : w142.heap.size ≤ k ∧ k < w144.heap.size) => by omega)
              have m8 := m8.only o149 (by omega)
              have hS := hS.only o149 (by omega)
              refine s_end ⟨hS, ?_⟩
              refine d_one 9 none (Go.Op.store 24 (Go.Operand.tmp 8) (Go.Operand.tmp 38)) (by kernel_rfl) (by kernel_rfl) fun ty pos af => ?_
              refine s_putW hF rfl rfl (size_wide wide24) m8 rfl (one_lc h138) fun w150 m8 o151 => ?_
              have so151 := o151.size
              have hB := hB.trans (o151.below (by omega))
              have m3 := m3.only o151 (by omega)
              have m4 := m4.only o151 (by omega)
              have m7 := m7.only o151 (by omega)
              have h35 := h35.only o151 (fun k (hk : w140.heap.size ≤ k ∧ k < w142.heap.size) => by omega)
              have h38 := h38.only o151 (fun k (hk : w142.heap.size ≤ k ∧ k < w144.heap.size) => by omega)
              have hS := hS.only o151 (by omega)
              refine s_end ⟨hS, ?_⟩
              refine d_end (by kernel_rfl) ?_
              exact key12 _ _ _ _ _ _ hB m3 m4 m7 m8 h35.rs h38.rs (hF.sub _ rfl)
            · refine d_op 7 (some 8) (Go.Op.alloc 24) (by kernel_rfl) fun ty pos af => ?_
              refine s_alloc hF (by decide) zero24 fun w152 b8 a eb8 m8 B153 zb8 hF => ?_
              have sB153 := B153.size
              have hB := hB.trans (B153.mono hB.size)
              have m3 := m3.old B153
              have m4 := m4.old B153
              have m7 := m7.old B153
              have h35 := h35.below B153
              have hS := hS.below B153
              refine s_end ⟨hS, ?_⟩
              refine d_one 5 (some 38) (Go.Op.call (Go.Call.mk (Go.Callee.value (Go.Operand.func 33)) #[(Go.Operand.tmp 36), (Go.Operand.tmp 37)] #[3, 24])) (by kernel_rfl) (by kernel_rfl) fun ty pos af => ?_
              refine s_callR (R := fun u w' => ∃ z, u = lv z ∧ RSn w' (fun k => w152.heap.size ≤ k) (plusS (N) (q)) z) [_, _] hF (enters_of Try.func33 (by kernel_rfl) rfl) rfl (by decide) (Plus33 (N) (q) y w152 (by omega) (by omega) (RS.below hB hq) fq bq.1 bq.2) ?_
              rintro _ w154 a ⟨t38, rfl, h38n⟩ B155 hF
              have sB155 := B155.size
              have hB := hB.trans (B155.mono hB.size)
              have m3 := m3.old B155
              have m4 := m4.old B155
              have m7 := m7.old B155
              have h35 := h35.below B155
              have m8 := m8.old B155
              have hS := hS.below B155
              have h38 := h38n.valid
              have h138 := h38n.rs.one1
              refine s_end ⟨hS, ?_⟩
              refine d_one 8 none (Go.Op.store 24 (Go.Operand.tmp 7) (Go.Operand.tmp 35)) (by kernel_rfl) (by kernel_rfl) fun ty pos af => ?_
              refine s_putW hF rfl rfl (size_wide wide24) m7 rfl (one_lc h135) fun w156 m7 o157 => ?_
              have so157 := o157.size
              have hB := hB.trans (o157.below (by omega))
              have m3 := m3.only o157 (by omega)
              have m4 := m4.only o157 (by omega)
              have h35 := h35.only o157 (fun k (hk : w140.heap.size ≤ k ∧ k < w142.heap.size) => by omega)
              have m8 := m8.only o157 (by omega)
              have h38 := h38.only o157 (fun k (hk : w152.heap.size ≤ k ∧ k < w154.heap.size) => by omega)
              have hS := hS.only o157 (by omega)
              refine s_end ⟨hS, ?_⟩
              refine d_one 9 none (Go.Op.store 24 (Go.Operand.tmp 8) (Go.Operand.tmp 38)) (by kernel_rfl) (by kernel_rfl) fun ty pos af => ?_
              refine s_putW hF rfl rfl (size_wide wide24) m8 rfl (one_lc h138) fun w158 m8 o159 => ?_
              have so159 := o159.size
              have hB := hB.trans (o159.below (by omega))
              have m3 := m3.only o159 (by omega)
              have m4 := m4.only o159 (by omega)
              have m7 := m7.only o159 (by omega)
              have h35 := h35.only o159 (fun k (hk : w140.heap.size ≤ k ∧ k < w142.heap.size) => by omega)
              have h38 := h38.only o159 (fun k (hk : w152.heap.size ≤ k ∧ k < w154.heap.size) => by omega)
              have hS := hS.only o159 (by omega)
              refine s_end ⟨hS, ?_⟩
              refine d_end (by kernel_rfl) ?_
              exact key12 _ _ _ _ _ _ hB m3 m4 m7 m8 h35.rs h38.rs (hF.sub _ rfl)
          · refine d_op 7 (some 8) (Go.Op.alloc 24) (by kernel_rfl) fun ty pos af => ?_
            refine s_alloc hF (by decide) zero24 fun w160 b8 a eb8 m8 B161 zb8 hF => ?_
            have sB161 := B161.size
            have hB := hB.trans (B161.mono hB.size)
            have m3 := m3.old B161
            have m4 := m4.old B161
            have m7 := m7.old B161
            have hS := hS.below B161
            refine s_end ⟨hS, ?_⟩
            refine d_one 2 (some 35) (Go.Op.call (Go.Call.mk (Go.Callee.value (Go.Operand.func 33)) #[(Go.Operand.tmp 33), (Go.Operand.tmp 34)] #[3, 24])) (by kernel_rfl) (by kernel_rfl) fun ty pos af => ?_
            refine s_callR (R := fun u w' => ∃ z, u = lv z ∧ RSn w' (fun k => w160.heap.size ≤ k) (plusS (N) (p)) z) [_, _] hF (enters_of Try.func33 (by kernel_rfl) rfl) rfl (by decide) (Plus33 (N) (p) x w160 (by omega) (by omega) (RS.below hB hp) fp bp.1 bp.2) ?_
            rintro _ w162 a ⟨t35, rfl, h35n⟩ B163 hF
            have sB163 := B163.size
            have hB := hB.trans (B163.mono hB.size)
            have m3 := m3.old B163
            have m4 := m4.old B163
            have m7 := m7.old B163
            have m8 := m8.old B163
            have hS := hS.below B163
            have h35 := h35n.valid
            have h135 := h35n.rs.one1
            refine s_end ⟨hS, ?_⟩
            refine d_one 5 (some 38) (Go.Op.call (Go.Call.mk (Go.Callee.value (Go.Operand.func 33)) #[(Go.Operand.tmp 36), (Go.Operand.tmp 37)] #[3, 24])) (by kernel_rfl) (by kernel_rfl) fun ty pos af => ?_
            refine s_callR (R := fun u w' => ∃ z, u = lv z ∧ RSn w' (fun k => w162.heap.size ≤ k) (plusS (N) (q)) z) [_, _] hF (enters_of Try.func33 (by kernel_rfl) rfl) rfl (by decide) (Plus33 (N) (q) y w162 (by omega) (by omega) (RS.below hB hq) fq bq.1 bq.2) ?_
            rintro _ w164 a ⟨t38, rfl, h38n⟩ B165 hF
            have sB165 := B165.size
            have hB := hB.trans (B165.mono hB.size)
            have m3 := m3.old B165
            have m4 := m4.old B165
            have m7 := m7.old B165
            have m8 := m8.old B165
            have h35 := h35.below B165
            have hS := hS.below B165
            have h38 := h38n.valid
            have h138 := h38n.rs.one1
            refine s_end ⟨hS, ?_⟩
            refine d_one 8 none (Go.Op.store 24 (Go.Operand.tmp 7) (Go.Operand.tmp 35)) (by kernel_rfl) (by kernel_rfl) fun ty pos af => ?_
            refine s_putW hF rfl rfl (size_wide wide24) m7 rfl (one_lc h135) fun w166 m7 o167 => ?_
            have so167 := o167.size
            have hB := hB.trans (o167.below (by omega))
            have m3 := m3.only o167 (by omega)
            have m4 := m4.only o167 (by omega)
            have m8 := m8.only o167 (by omega)
            have h35 := h35.only o167 (fun k (hk : w160.heap.size ≤ k ∧ k < w162.heap.size) => by omega)
            have h38 := h38.only o167 (fun k (hk : w162.heap.size ≤ k ∧ k < w164.heap.size) => by omega)
            have hS := hS.only o167 (by omega)
            refine s_end ⟨hS, ?_⟩
            refine d_one 9 none (Go.Op.store 24 (Go.Operand.tmp 8) (Go.Operand.tmp 38)) (by kernel_rfl) (by kernel_rfl) fun ty pos af => ?_
            refine s_putW hF rfl rfl (size_wide wide24) m8 rfl (one_lc h138) fun w168 m8 o169 => ?_
            have so169 := o169.size
            have hB := hB.trans (o169.below (by omega))
            have m3 := m3.only o169 (by omega)
            have m4 := m4.only o169 (by omega)
            have m7 := m7.only o169 (by omega)
            have h35 := h35.only o169 (fun k (hk : w160.heap.size ≤ k ∧ k < w162.heap.size) => by omega)
            have h38 := h38.only o169 (fun k (hk : w162.heap.size ≤ k ∧ k < w164.heap.size) => by omega)
            have hS := hS.only o169 (by omega)
            refine s_end ⟨hS, ?_⟩
            refine d_end (by kernel_rfl) ?_
            exact key12 _ _ _ _ _ _ hB m3 m4 m7 m8 h35.rs h38.rs (hF.sub _ rfl)
        · refine d_op 7 (some 8) (Go.Op.alloc 24) (by kernel_rfl) fun ty pos af => ?_
          refine s_alloc hF (by decide) zero24 fun w170 b8 a eb8 m8 B171 zb8 hF => ?_
          have sB171 := B171.size
          have hB := hB.trans (B171.mono hB.size)
          have m3 := m3.old B171
          have m4 := m4.old B171
          have hS := hS.below B171
          refine s_end ⟨hS, ?_⟩
          refine d_two 2 6 (by kernel_rfl) ?_ ?_
          · refine d_op 2 (some 35) (Go.Op.call (Go.Call.mk (Go.Callee.value (Go.Operand.func 33)) #[(Go.Operand.tmp 33), (Go.Operand.tmp 34)] #[3, 24])) (by kernel_rfl) fun ty pos af => ?_
            refine s_callR (R := fun u w' => ∃ z, u = lv z ∧ RSn w' (fun k => w170.heap.size ≤ k) (plusS (N) (p)) z) [_, _] hF (enters_of Try.func33 (by kernel_rfl) rfl) rfl (by decide) (Plus33 (N) (p) x w170 (by omega) (by omega) (RS.below hB hp) fp bp.1 bp.2) ?_
            rintro _ w172 a ⟨t35, rfl, h35n⟩ B173 hF
            have sB173 := B173.size
            have hB := hB.trans (B173.mono hB.size)
            have m3 := m3.old B173
            have m4 := m4.old B173
            have m8 := m8.old B173
            have hS := hS.below B173
            have h35 := h35n.valid
            have h135 := h35n.rs.one1
            refine s_end ⟨hS, ?_⟩
            refine d_two 5 6 (by kernel_rfl) ?_ ?_
            · refine d_op 5 (some 38) (Go.Op.call (Go.Call.mk (Go.Callee.value (Go.Operand.func 33)) #[(Go.Operand.tmp 36), (Go.Operand.tmp 37)] #[3, 24])) (by kernel_rfl) fun ty pos af => ?_
              refine s_callR (R := fun u w' => ∃ z, u = lv z ∧ RSn w' (fun k => w172.heap.size ≤ k) (plusS (N) (q)) z) [_, _] hF (enters_of Try.func33 (by kernel_rfl) rfl) rfl (by decide) (Plus33 (N) (q) y w172 (by omega) (by omega) (RS.below hB hq) fq bq.1 bq.2) ?_
              rintro _ w174 a ⟨t38, rfl, h38n⟩ B175 hF
              have sB175 := B175.size
              have hB := hB.trans (B175.mono hB.size)
              have m3 := m3.old B175
              have m4 := m4.old B175
              have m8 := m8.old B175
              have h35 := h35.below B175
              have hS := hS.below B175
              have h38 := h38n.valid
              have h138 := h38n.rs.one1
              refine s_end ⟨hS, ?_⟩
              refine d_one 6 (some 7) (Go.Op.alloc 24) (by kernel_rfl) (by kernel_rfl) fun ty pos af => ?_
              refine s_alloc hF (by decide) zero24 fun w176 b7 a eb7 m7 B177 zb7 hF => ?_
              have sB177 := B177.size
              have hB := hB.trans (B177.mono hB.size)
              have m3 := m3.old B177
              have m4 := m4.old B177
              have m8 := m8.old B177
              have h35 := h35.below B177
              have h38 := h38.below B177
              have hS := hS.below B177
              refine s_end ⟨hS, ?_⟩
              refine d_one 8 none (Go.Op.store 24 (Go.Operand.tmp 7) (Go.Operand.tmp 35)) (by kernel_rfl) (by kernel_rfl) fun ty pos af => ?_
              refine s_putW hF rfl rfl (size_wide wide24) m7 rfl (one_lc h135) fun w178 m7 o179 => ?_
              have so179 := o179.size
              have hB := hB.trans (o179.below (by omega))
              have m3 := m3.only o179 (by omega)
              have m4 := m4.only o179 (by omega)
              have m8 := m8.only o179 (by omega)
              have h35 := h35.only o179 (fun k (hk : w170.heap.size ≤ k ∧ k < w172.heap.size) => by omega)
              have h38 := h38.only o179 (fun k (hk : w172.heap.size ≤ k ∧ k < w174.heap.size) => by omega)
              have hS := hS.only o179 (by omega)
              refine s_end ⟨hS, ?_⟩
              refine d_one 9 none (Go.Op.store 24 (Go.Operand.tmp 8) (Go.Operand.tmp 38)) (by kernel_rfl) (by kernel_rfl) fun ty pos af => ?_
              refine s_putW hF rfl rfl (size_wide wide24) m8 rfl (one_lc h138) fun w180 m8 o181 => ?_
              have so181 := o181.size
              have hB := hB.trans (o181.below (by omega))
              have m3 := m3.only o181 (by omega)
              have m4 := m4.only o181 (by omega)
              have h35 := h35.only o181 (fun k (hk : w170.heap.size ≤ k ∧ k < w172.heap.size) => by omega)
              have h38 := h38.only o181 (fun k (hk : w172.heap.size ≤ k ∧ k < w174.heap.size) => by omega)
              have m7 := m7.only o181 (by omega)
              have hS := hS.only o181 (by omega)
              refine s_end ⟨hS, ?_⟩
              refine d_end (by kernel_rfl) ?_
              exact key12 _ _ _ _ _ _ hB m3 m4 m7 m8 h35.rs h38.rs (hF.sub _ rfl)
            · refine d_op 6 (some 7) (Go.Op.alloc 24) (by kernel_rfl) fun ty pos af => ?_
              refine s_alloc hF (by decide) zero24 fun w182 b7 a eb7 m7 B183 zb7 hF => ?_
              have sB183 := B183.size
              have hB := hB.trans (B183.mono hB.size)
              have m3 := m3.old B183
              have m4 := m4.old B183
              have m8 := m8.old B183
              have h35 := h35.below B183
              have hS := hS.below B183
              refine s_end ⟨hS, ?_⟩
              refine d_one 5 (some 38) (Go.Op.call (Go.Call.mk (Go.Callee.value (Go.Operand.func 33)) #[(Go.Operand.tmp 36), (Go.Operand.tmp 37)] #[3, 24])) (by kernel_rfl) (by kernel_rfl) fun ty pos af => ?_
              refine s_callR (R := fun u w' => ∃ z, u = lv z ∧ RSn w' (fun k => w182.heap.size ≤ k) (plusS (N) (q)) z) [_, _] hF (enters_of Try.func33 (by kernel_rfl) rfl) rfl (by decide) (Plus33 (N) (q) y w182 (by omega) (by omega) (RS.below hB hq) fq bq.1 bq.2) ?_
              rintro _ w184 a ⟨t38, rfl, h38n⟩ B185 hF
              have sB185 := B185.size
              have hB := hB.trans (B185.mono hB.size)
              have m3 := m3.old B185
              have m4 := m4.old B185
              have m8 := m8.old B185
              have h35 := h35.below B185
              have m7 := m7.old B185
              have hS := hS.below B185
              have h38 := h38n.valid
              have h138 := h38n.rs.one1
              refine s_end ⟨hS, ?_⟩
              refine d_one 8 none (Go.Op.store 24 (Go.Operand.tmp 7) (Go.Operand.tmp 35)) (by kernel_rfl) (by kernel_rfl) fun ty pos af => ?_
              refine s_putW hF rfl rfl (size_wide wide24) m7 rfl (one_lc h135) fun w186 m7 o187 => ?_
              have so187 := o187.size
              have hB := hB.trans (o187.below (by omega))
              have m3 := m3.only o187 (by omega)
              have m4 := m4.only o187 (by omega)
              have m8 := m8.only o187 (by omega)
              have h35 := h35.only o187 (fun k (hk : w170.heap.size ≤ k ∧ k < w172.heap.size) => by omega)
              have h38 := h38.only o187 (fun k (hk : w182.heap.size ≤ k ∧ k < w184.heap.size) => by omega)
              have hS := hS.only o187 (by omega)
              refine s_end ⟨hS, ?_⟩
              refine d_one 9 none (Go.Op.store 24 (Go.Operand.tmp 8) (Go.Operand.tmp 38)) (by kernel_rfl) (by kernel_rfl) fun ty pos af => ?_
              refine s_putW hF rfl rfl (size_wide wide24) m8 rfl (one_lc h138) fun w188 m8 o189 => ?_
              have so189 := o189.size
              have hB := hB.trans (o189.below (by omega))
              have m3 := m3.only o189 (by omega)
              have m4 := m4.only o189 (by omega)
              have h35 := h35.only o189 (fun k (hk : w170.heap.size ≤ k ∧ k < w172.heap.size) => by omega)
              have m7 := m7.only o189 (by omega)
              have h38 := h38.only o189 (fun k (hk : w182.heap.size ≤ k ∧ k < w184.heap.size) => by omega)
              have hS := hS.only o189 (by omega)
              refine s_end ⟨hS, ?_⟩
              refine d_end (by kernel_rfl) ?_
              exact key12 _ _ _ _ _ _ hB m3 m4 m7 m8 h35.rs h38.rs (hF.sub _ rfl)
          · refine d_op 6 (some 7) (Go.Op.alloc 24) (by kernel_rfl) fun ty pos af => ?_
            refine s_alloc hF (by decide) zero24 fun w190 b7 a eb7 m7 B191 zb7 hF => ?_
            have sB191 := B191.size
            have hB := hB.trans (B191.mono hB.size)
            have m3 := m3.old B191
            have m4 := m4.old B191
            have m8 := m8.old B191
            have hS := hS.below B191
            refine s_end ⟨hS, ?_⟩
            refine d_one 2 (some 35) (Go.Op.call (Go.Call.mk (Go.Callee.value (Go.Operand.func 33)) #[(Go.Operand.tmp 33), (Go.Operand.tmp 34)] #[3, 24])) (by kernel_rfl) (by kernel_rfl) fun ty pos af => ?_
            refine s_callR (R := fun u w' => ∃ z, u = lv z ∧ RSn w' (fun k => w190.heap.size ≤ k) (plusS (N) (p)) z) [_, _] hF (enters_of Try.func33 (by kernel_rfl) rfl) rfl (by decide) (Plus33 (N) (p) x w190 (by omega) (by omega) (RS.below hB hp) fp bp.1 bp.2) ?_
            rintro _ w192 a ⟨t35, rfl, h35n⟩ B193 hF
            have sB193 := B193.size
            have hB := hB.trans (B193.mono hB.size)
            have m3 := m3.old B193
            have m4 := m4.old B193
            have m8 := m8.old B193
            have m7 := m7.old B193
            have hS := hS.below B193
            have h35 := h35n.valid
            have h135 := h35n.rs.one1
            refine s_end ⟨hS, ?_⟩
            refine d_one 5 (some 38) (Go.Op.call (Go.Call.mk (Go.Callee.value (Go.Operand.func 33)) #[(Go.Operand.tmp 36), (Go.Operand.tmp 37)] #[3, 24])) (by kernel_rfl) (by kernel_rfl) fun ty pos af => ?_
            refine s_callR (R := fun u w' => ∃ z, u = lv z ∧ RSn w' (fun k => w192.heap.size ≤ k) (plusS (N) (q)) z) [_, _] hF (enters_of Try.func33 (by kernel_rfl) rfl) rfl (by decide) (Plus33 (N) (q) y w192 (by omega) (by omega) (RS.below hB hq) fq bq.1 bq.2) ?_
            rintro _ w194 a ⟨t38, rfl, h38n⟩ B195 hF
            have sB195 := B195.size
            have hB := hB.trans (B195.mono hB.size)
            have m3 := m3.old B195
            have m4 := m4.old B195
            have m8 := m8.old B195
            have m7 := m7.old B195
            have h35 := h35.below B195
            have hS := hS.below B195
            have h38 := h38n.valid
            have h138 := h38n.rs.one1
            refine s_end ⟨hS, ?_⟩
            refine d_one 8 none (Go.Op.store 24 (Go.Operand.tmp 7) (Go.Operand.tmp 35)) (by kernel_rfl) (by kernel_rfl) fun ty pos af => ?_
            refine s_putW hF rfl rfl (size_wide wide24) m7 rfl (one_lc h135) fun w196 m7 o197 => ?_
            have so197 := o197.size
            have hB := hB.trans (o197.below (by omega))
            have m3 := m3.only o197 (by omega)
            have m4 := m4.only o197 (by omega)
            have m8 := m8.only o197 (by omega)
            have h35 := h35.only o197 (fun k (hk : w190.heap.size ≤ k ∧ k < w192.heap.size) => by omega)
            have h38 := h38.only o197 (fun k (hk : w192.heap.size ≤ k ∧ k < w194.heap.size) => by omega)
            have hS := hS.only o197 (by omega)
            refine s_end ⟨hS, ?_⟩
            refine d_one 9 none (Go.Op.store 24 (Go.Operand.tmp 8) (Go.Operand.tmp 38)) (by kernel_rfl) (by kernel_rfl) fun ty pos af => ?_
            refine s_putW hF rfl rfl (size_wide wide24) m8 rfl (one_lc h138) fun w198 m8 o199 => ?_
            have so199 := o199.size
            have hB := hB.trans (o199.below (by omega))
            have m3 := m3.only o199 (by omega)
            have m4 := m4.only o199 (by omega)
            have m7 := m7.only o199 (by omega)
            have h35 := h35.only o199 (fun k (hk : w190.heap.size ≤ k ∧ k < w192.heap.size) => by omega)
            have h38 := h38.only o199 (fun k (hk : w192.heap.size ≤ k ∧ k < w194.heap.size) => by omega)
            have hS := hS.only o199 (by omega)
            refine s_end ⟨hS, ?_⟩
            refine d_end (by kernel_rfl) ?_
            exact key12 _ _ _ _ _ _ hB m3 m4 m7 m8 h35.rs h38.rs (hF.sub _ rfl)
end Go.Proofs.Ytnnkggfhhkhnmaa
