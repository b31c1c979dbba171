/- assizeref3.root, assizeref3.primes. -/
import Derived.Test.YtefpenjcgplamaaDoorPureR
namespace Go.Proofs.YtefpenjcgplamaaDoor
open Go.RowKit Go.Shelf
set_option linter.unusedVariables false
set_option linter.unusedSimpArgs false

theorem x_subi {P : Program} {n : Nat} {l : List (Nat × Value)} {w : World} {t t' : TypeId} {x y : Operand} {p q : Int} (r : Int) (h1 : p - q = r) (h2 : -9223372036854775808 ≤ r) (h3 : r < 9223372036854775808) (hx : ov l x = some (.int .i64 p)) (hy : ov l y = some (.int .i64 q)) : Runs P n l w (.binOp .sub t x y t') (.int .i64 r) := by
  have := x_sub (P := P) (n := n) (w := w) (t := t) (t' := t') (by omega) (by omega) hx hy
  rwa [h1] at this
theorem x_rem64 {P : Program} {n : Nat} {l : List (Nat × Value)} {w : World} {t t' : TypeId} {x y : Operand} {p q : UInt64} (hq : q ≠ 0) (hx : ov l x = some (encD p)) (hy : ov l y = some (encD q)) : Runs P n l w (.binOp .rem t x y t') (encD (p % q)) :=
  x_bin hx hy (b_int fun W => by
    have h0 : (q.toNat : Int) ≠ 0 := fun h => hq (UInt64.toNat_inj.1 (by simpa using h))
    simp only [binOp, Op.intDiv, ne_eq, not_true, if_false, h0, encD, UInt64.toNat_mod]
    show Result.ok (Value.int .u64 ((p.toNat : Int).tmod (q.toNat : Int))) W = _
    rw [Int.tmod_eq_emod_of_nonneg (by omega)]
    rfl)

set_option maxRecDepth 100000 in
set_option maxHeartbeats 400000 in
theorem root20 (p : UInt64) (w : World) : Calls Tryd.prog 28 #[encD p] w fun e w' => e = .returned (encW (rootL p)) ∧ w' = w := by
  refine calls_fs 53 [(0, encD p)] Tryd.func28 rfl rfl rfl rfl rfl fun a hF => ?_
  refine wp_rs fun K1 hK1 => ?_
  refine s_val hF (x_assign rfl) (by decide) fun a hF => ?_
  refine s_end (hK1 _ _ ?_)
  refine wp_rs fun K2 hK2 => ?_
  refine s_val hF (x_assign (v := encD 0) rfl) (by decide) fun a hF => ?_
  refine s_end (hK2 _ _ ?_)
  refine wp_seq_k fun K3 hK3 => ?_
  refine wp_rs fun K4 hK4 => ?_
  refine s_val hF (x_assign (v := .int .i64 ((34 : Int) - ((0 : Nat) : Int))) rfl) (by decide) fun a hF => ?_
  refine s_end (hK4 _ _ ?_)
  refine wp_block ?_
  refine wp_up 35 (fun k a w' => w' = w ∧ ∃ x, rootX p (35 - k) x = rootX p 35 0 ∧ Fs 53 a [(4, .int .i64 ((34 : Int) - (k : Int))), (3, encD x), (0, encD p)]) ⟨rfl, 0, rfl, hF.sub _ rfl⟩ ?_
  clear hF
  rintro k a w hk ⟨rfl, x, hx, hF⟩ K' hK'
  refine wp_seq_k fun K5 hK5 => ?_
  refine wp_rs fun K6 hK6 => ?_
  refine s_val hF (x_move rfl) (by decide) fun a hF => ?_
  refine s_val hF (x_geq (b := decide (k ≤ 34)) (by congr 1; simp; omega) rfl rfl) (by decide) fun a hF => ?_
  refine s_end (hK6 _ _ ?_)
  refine wp_iff hF rfl (fun hc11 => ?_) (fun hc11 => ?_)
  · refine wp_skip (hK5 _ _ ?_)
    refine wp_seq_k fun K7 hK7 => ?_
    refine wp_block ?_
    refine wp_rs fun K8 hK8 => ?_
    refine s_val hF (x_move rfl) (by decide) fun a hF => ?_
    refine s_val hF (x_move rfl) (by decide) fun a hF => ?_
    refine s_val hF (x_cvt (k := .u64) (r := ((34 - k : Nat) : Int)) Tryd.underlying3 Tryd.underlying48 (by rw [wrap_u64]; omega) rfl) (by decide) fun a hF => ?_
    refine s_val hF (x_shl64 (p := 1) (34 - k) rfl (by omega) rfl rfl) (by decide) fun a hF => ?_
    refine s_val hF (x_or64 rfl rfl) (by decide) fun a hF => ?_
    refine s_val hF (x_assign rfl) (by decide) fun a hF => ?_
    refine s_end (hK8 _ _ ?_)
    refine wp_rs fun K9 hK9 => ?_
    refine s_val hF (x_move rfl) (by decide) fun a hF => ?_
    refine s_val hF (x_move rfl) (by decide) fun a hF => ?_
    refine s_same2 hF (enters_of Tryd.func32 (by kernel_rfl) rfl) rfl rfl (by decide) (mul27 (rY x (34 - k)) (rY x (34 - k)) w) fun a hF => ?_
    refine s_val hF (x_move rfl) (by decide) fun a hF => ?_
    refine s_val hF (x_ext rfl rfl) (by decide) fun a hF => ?_
    refine s_val hF (x_ext rfl rfl) (by decide) fun a hF => ?_
    refine s_val hF (x_assign rfl) (by decide) fun a hF => ?_
    refine s_val hF (x_assign rfl) (by decide) fun a hF => ?_
    refine s_end (hK9 _ _ ?_)
    refine wp_rs fun K10 hK10 => ?_
    refine s_val hF (x_move rfl) (by decide) fun a hF => ?_
    refine s_val hF (x_move rfl) (by decide) fun a hF => ?_
    refine s_same2 hF (enters_of Tryd.func32 (by kernel_rfl) rfl) rfl rfl (by decide) (mul27 (rY x (34 - k) * rY x (34 - k)) (rY x (34 - k)) w) fun a hF => ?_
    refine s_val hF (x_move rfl) (by decide) fun a hF => ?_
    refine s_val hF (x_ext rfl rfl) (by decide) fun a hF => ?_
    refine s_val hF (x_ext rfl rfl) (by decide) fun a hF => ?_
    refine s_val hF (x_assign rfl) (by decide) fun a hF => ?_
    refine s_val hF (x_assign rfl) (by decide) fun a hF => ?_
    refine s_end (hK10 _ _ ?_)
    refine wp_rs fun K11 hK11 => ?_
    refine s_val hF (x_move rfl) (by decide) fun a hF => ?_
    refine s_val hF (x_move rfl) (by decide) fun a hF => ?_
    refine s_val hF (x_move rfl) (by decide) fun a hF => ?_
    refine s_val hF (x_mul64 rfl rfl) (by decide) fun a hF => ?_
    refine s_val hF (x_add64 rfl rfl) (by decide) fun a hF => ?_
    refine s_val hF (x_assign rfl) (by decide) fun a hF => ?_
    refine s_end (hK11 _ _ ?_)
    by_cases hA : (rTop (rY x (34 - k))).toNat < (p <<< UInt64.ofNat 32).toNat
    · have hok : rOk p (rY x (34 - k)) = true := by simp only [rOk, UInt64.lt_iff_toNat_lt, decide_eq_true hA]; rfl
      refine wp_rs fun K12 hK12 => ?_
      refine s_val hF (x_move rfl) (by decide) fun a hF => ?_
      refine s_val hF (x_move rfl) (by decide) fun a hF => ?_
      refine s_val hF (x_shl64 32 rfl (by decide) rfl rfl) (by decide) fun a hF => ?_
      refine s_val hF (x_lss (b := true) (decide_eq_true (by show ((rTop (rY x (34 - k))).toNat : Int) < _; omega)) rfl rfl) (by decide) fun a hF => ?_
      refine s_val hF (x_move rfl) (by decide) fun a hF => ?_
      refine s_grdn 40 hF rfl rfl (by decide) fun a hF => ?_
      refine s_grdn 40 hF rfl rfl (by decide) fun a hF => ?_
      refine s_grdn 40 hF rfl rfl (by decide) fun a hF => ?_
      refine s_grdn 40 hF rfl rfl (by decide) fun a hF => ?_
      refine s_grdn 40 hF rfl rfl (by decide) fun a hF => ?_
      refine s_grdu 45 hF rfl rfl (by decide) fun a hF => ?_
      refine s_grdu 45 hF rfl rfl (by decide) fun a hF => ?_
      refine s_grdn 40 hF rfl rfl (by decide) fun a hF => ?_
      refine s_val hF (x_pick rfl rfl) (by decide) fun a hF => ?_
      refine s_end (hK12 _ _ ?_)
      refine wp_if hF rfl ?_
      refine wp_region_lit ?_
      refine s_val hF (x_move rfl) (by decide) fun a hF => ?_
      refine s_val hF (x_assign rfl) (by decide) fun a hF => ?_
      refine s_end (hK7 _ _ ?_)
      refine wp_region_lit ?_
      refine s_val hF (x_move rfl) (by decide) fun a hF => ?_
      refine s_val hF (x_subi ((34 : Int) - ((k + 1 : Nat) : Int)) (by omega) (by omega) (by omega) rfl rfl) (by decide) fun a hF => ?_
      refine s_val hF (x_assign rfl) (by decide) fun a hF => ?_
      refine s_end (hK' _ _ (by omega) ⟨rfl, rY x (34 - k), by rw [← hx, show 35 - k = (34 - k) + 1 by omega, rootX, rStep, hok, show 35 - (k + 1) = 34 - k by omega]; rfl, hF.sub _ rfl⟩)
    · by_cases hB : rTop (rY x (34 - k)) = p <<< UInt64.ofNat 32
      · by_cases hC : rLow (rY x (34 - k)) = 0
        · have hok : rOk p (rY x (34 - k)) = true := by simp only [rOk, decide_eq_true hB, decide_eq_true hC]; simp
          refine wp_rs fun K13 hK13 => ?_
          refine s_val hF (x_move rfl) (by decide) fun a hF => ?_
          refine s_val hF (x_move rfl) (by decide) fun a hF => ?_
          refine s_val hF (x_shl64 32 rfl (by decide) rfl rfl) (by decide) fun a hF => ?_
          refine s_val hF (x_lss (b := false) (decide_eq_false (by show ¬ ((rTop (rY x (34 - k))).toNat : Int) < _; omega)) rfl rfl) (by decide) fun a hF => ?_
          refine s_val hF (x_move rfl) (by decide) fun a hF => ?_
          refine s_grd 40 hF rfl rfl rfl ?_
          refine s_val hF (x_move rfl) (by decide) fun a hF => ?_
          refine s_grd 40 hF rfl rfl rfl ?_
          refine s_val hF (x_move rfl) (by decide) fun a hF => ?_
          refine s_grd 40 hF rfl rfl rfl ?_
          refine s_val hF (x_shl64 32 rfl (by decide) rfl rfl) (by decide) fun a hF => ?_
          refine s_grd 40 hF rfl rfl rfl ?_
          refine s_val hF (x_eql (b := true) (decide_eq_true (by show ((rTop (rY x (34 - k))).toNat : Int) = _; rw [hB])) rfl rfl) (by decide) fun a hF => ?_
          refine s_grd 40 hF rfl rfl rfl ?_
          refine s_val hF (x_move rfl) (by decide) fun a hF => ?_
          refine s_grd 45 hF rfl rfl rfl ?_
          refine s_val hF (x_move rfl) (by decide) fun a hF => ?_
          refine s_grd 45 hF rfl rfl rfl ?_
          refine s_val hF (x_eql (b := true) (decide_eq_true (by show ((rLow (rY x (34 - k))).toNat : Int) = _; rw [hC]; rfl)) rfl rfl) (by decide) fun a hF => ?_
          refine s_grd 40 hF rfl rfl rfl ?_
          refine s_val hF (x_pick rfl rfl) (by decide) fun a hF => ?_
          refine s_val hF (x_pick rfl rfl) (by decide) fun a hF => ?_
          refine s_end (hK13 _ _ ?_)
          refine wp_if hF rfl ?_
          refine wp_region_lit ?_
          refine s_val hF (x_move rfl) (by decide) fun a hF => ?_
          refine s_val hF (x_assign rfl) (by decide) fun a hF => ?_
          refine s_end (hK7 _ _ ?_)
          refine wp_region_lit ?_
          refine s_val hF (x_move rfl) (by decide) fun a hF => ?_
          refine s_val hF (x_subi ((34 : Int) - ((k + 1 : Nat) : Int)) (by omega) (by omega) (by omega) rfl rfl) (by decide) fun a hF => ?_
          refine s_val hF (x_assign rfl) (by decide) fun a hF => ?_
          refine s_end (hK' _ _ (by omega) ⟨rfl, rY x (34 - k), by rw [← hx, show 35 - k = (34 - k) + 1 by omega, rootX, rStep, hok, show 35 - (k + 1) = 34 - k by omega]; rfl, hF.sub _ rfl⟩)
        · have hok : rOk p (rY x (34 - k)) = false := by simp only [rOk, UInt64.lt_iff_toNat_lt, decide_eq_false hA, decide_eq_false hC]; simp
          refine wp_rs fun K14 hK14 => ?_
          refine s_val hF (x_move rfl) (by decide) fun a hF => ?_
          refine s_val hF (x_move rfl) (by decide) fun a hF => ?_
          refine s_val hF (x_shl64 32 rfl (by decide) rfl rfl) (by decide) fun a hF => ?_
          refine s_val hF (x_lss (b := false) (decide_eq_false (by show ¬ ((rTop (rY x (34 - k))).toNat : Int) < _; omega)) rfl rfl) (by decide) fun a hF => ?_
          refine s_val hF (x_move rfl) (by decide) fun a hF => ?_
          refine s_grd 40 hF rfl rfl rfl ?_
          refine s_val hF (x_move rfl) (by decide) fun a hF => ?_
          refine s_grd 40 hF rfl rfl rfl ?_
          refine s_val hF (x_move rfl) (by decide) fun a hF => ?_
          refine s_grd 40 hF rfl rfl rfl ?_
          refine s_val hF (x_shl64 32 rfl (by decide) rfl rfl) (by decide) fun a hF => ?_
          refine s_grd 40 hF rfl rfl rfl ?_
          refine s_val hF (x_eql (b := true) (decide_eq_true (by show ((rTop (rY x (34 - k))).toNat : Int) = _; rw [hB])) rfl rfl) (by decide) fun a hF => ?_
          refine s_grd 40 hF rfl rfl rfl ?_
          refine s_val hF (x_move rfl) (by decide) fun a hF => ?_
          refine s_grd 45 hF rfl rfl rfl ?_
          refine s_val hF (x_move rfl) (by decide) fun a hF => ?_
          refine s_grd 45 hF rfl rfl rfl ?_
          refine s_val hF (x_eql (b := false) (decide_eq_false (by show ¬ ((rLow (rY x (34 - k))).toNat : Int) = 0; intro h; exact hC (UInt64.toNat_inj.1 (by simpa using h)))) rfl rfl) (by decide) fun a hF => ?_
          refine s_grd 40 hF rfl rfl rfl ?_
          refine s_val hF (x_pick rfl rfl) (by decide) fun a hF => ?_
          refine s_val hF (x_pick rfl rfl) (by decide) fun a hF => ?_
          refine s_end (hK14 _ _ ?_)
          refine wp_if hF rfl ?_
          refine wp_skip (hK7 _ _ ?_)
          refine wp_region_lit ?_
          refine s_val hF (x_move rfl) (by decide) fun a hF => ?_
          refine s_val hF (x_subi ((34 : Int) - ((k + 1 : Nat) : Int)) (by omega) (by omega) (by omega) rfl rfl) (by decide) fun a hF => ?_
          refine s_val hF (x_assign rfl) (by decide) fun a hF => ?_
          refine s_end (hK' _ _ (by omega) ⟨rfl, x, by rw [← hx, show 35 - k = (34 - k) + 1 by omega, rootX, rStep, hok, show 35 - (k + 1) = 34 - k by omega]; rfl, hF.sub _ rfl⟩)
      · have hok : rOk p (rY x (34 - k)) = false := by simp only [rOk, UInt64.lt_iff_toNat_lt, decide_eq_false hA, decide_eq_false hB]; simp
        refine wp_rs fun K15 hK15 => ?_
        refine s_val hF (x_move rfl) (by decide) fun a hF => ?_
        refine s_val hF (x_move rfl) (by decide) fun a hF => ?_
        refine s_val hF (x_shl64 32 rfl (by decide) rfl rfl) (by decide) fun a hF => ?_
        refine s_val hF (x_lss (b := false) (decide_eq_false (by show ¬ ((rTop (rY x (34 - k))).toNat : Int) < _; omega)) rfl rfl) (by decide) fun a hF => ?_
        refine s_val hF (x_move rfl) (by decide) fun a hF => ?_
        refine s_grd 40 hF rfl rfl rfl ?_
        refine s_val hF (x_move rfl) (by decide) fun a hF => ?_
        refine s_grd 40 hF rfl rfl rfl ?_
        refine s_val hF (x_move rfl) (by decide) fun a hF => ?_
        refine s_grd 40 hF rfl rfl rfl ?_
        refine s_val hF (x_shl64 32 rfl (by decide) rfl rfl) (by decide) fun a hF => ?_
        refine s_grd 40 hF rfl rfl rfl ?_
        refine s_val hF (x_eql (b := false) (decide_eq_false (by show ¬ ((rTop (rY x (34 - k))).toNat : Int) = _; intro h; exact hB (UInt64.toNat_inj.1 (by omega)))) rfl rfl) (by decide) fun a hF => ?_
        refine s_grd 40 hF rfl rfl rfl ?_
        refine s_val hF (x_move rfl) (by decide) fun a hF => ?_
        refine s_grdn 45 hF rfl rfl (by decide) fun a hF => ?_
        refine s_grdn 45 hF rfl rfl (by decide) fun a hF => ?_
        refine s_grd 40 hF rfl rfl rfl ?_
        refine s_val hF (x_pick rfl rfl) (by decide) fun a hF => ?_
        refine s_val hF (x_pick rfl rfl) (by decide) fun a hF => ?_
        refine s_end (hK15 _ _ ?_)
        refine wp_if hF rfl ?_
        refine wp_skip (hK7 _ _ ?_)
        refine wp_region_lit ?_
        refine s_val hF (x_move rfl) (by decide) fun a hF => ?_
        refine s_val hF (x_subi ((34 : Int) - ((k + 1 : Nat) : Int)) (by omega) (by omega) (by omega) rfl rfl) (by decide) fun a hF => ?_
        refine s_val hF (x_assign rfl) (by decide) fun a hF => ?_
        refine s_end (hK' _ _ (by omega) ⟨rfl, x, by rw [← hx, show 35 - k = (34 - k) + 1 by omega, rootX, rStep, hok, show 35 - (k + 1) = 34 - k by omega]; rfl, hF.sub _ rfl⟩)
  · obtain rfl : k = 35 := by omega
    rw [show 35 - 35 = 0 from rfl, rootX] at hx
    refine wp_exit (hK3 _ _ ?_)
    refine wp_rs fun K16 hK16 => ?_
    refine s_val hF (x_move rfl) (by decide) fun a hF => ?_
    refine s_val hF (x_d2w Tryd.underlying47 Tryd.underlying57 rfl) (by decide) fun a hF => ?_
    refine s_val hF (x_assign rfl) (by decide) fun a hF => ?_
    refine s_end (hK16 _ _ ?_)
    refine wp_ret (res_slot hF rfl rfl ⟨by rw [hx]; rfl, rfl⟩)

theorem primesL_pos : ∀ k, k ≤ 310 → ∀ q ∈ primesL k, q ≠ 0
  | 0, _, q, h => by rw [primesL] at h; cases h
  | k + 1, hk, q, h => by
    rw [primesL] at h
    cases hb : isP (primesL k) (UInt64.ofNat (2 + k)) with
    | false =>
      rw [hb] at h
      exact primesL_pos k (by omega) q h
    | true =>
      rw [hb] at h
      simp only [cond_true, List.mem_append, List.mem_singleton] at h
      rcases h with h | rfl
      · exact primesL_pos k (by omega) q h
      · intro e
        have := congrArg UInt64.toNat e
        rw [UInt64.toNat_ofNat', Nat.mod_eq_of_lt (by omega)] at this
        simp at this
theorem cellPD {w : World} {b t n : Nat} {ws : List UInt64} (h : Blk w b t ((pad n 0 ws).map encD)) (j : Nat) (hj : j < ws.length) : w.cell? ⟨b, 0 + j, none⟩ = some (encD (ws.getD j 0)) := by
  rw [Nat.zero_add]
  exact h.cell (by rw [List.getElem?_map, pad_get n 0 ws j hj]; rfl)
theorem set_padD {n : Nat} {ws : List UInt64} (v : UInt64) (k : Nat) (hk : ws.length = k) (h : k < n) : ((pad n 0 ws).map encD).set k (encD v) = (pad n 0 (ws ++ [v])).map encD := by
  subst hk
  rw [← pad_set n 0 v ws h, List.map_set]
theorem len_padD {n : Nat} {ws : List UInt64} (h : ws.length ≤ n) : ((pad n 0 ws).map encD).length = n := by rw [List.length_map, pad_length n 0 ws h]
theorem oneD (l : List UInt64) : ∀ u ∈ l.map encD, u.oneCell' = true := by
  intro u hu
  simp only [List.mem_map] at hu
  obtain ⟨c, _, rfl⟩ := hu
  rfl
theorem isP_succ (ps : List UInt64) (p : UInt64) (i : Nat) (h : i < ps.length) : isP (ps.take (i + 1)) p = (isP (ps.take i) p && decide (p % ps.getD i 0 ≠ 0)) := by
  rw [isP, isP, take_snoc ps i 0 h, List.all_append]
  simp
theorem ofNat_succ (k : Nat) : UInt64.ofNat (2 + k) + 1 = UInt64.ofNat (2 + (k + 1)) := by
  apply UInt64.toNat_inj.1
  rw [UInt64.toNat_add, UInt64.toNat_ofNat', UInt64.toNat_ofNat']
  simp
  omega
theorem u64_zero (z : UInt64) : ((z.toNat : Int) = 0) ↔ z = 0 := by
  constructor
  · intro h
    apply UInt64.toNat_inj.1
    show z.toNat = 0
    omega
  · rintro rfl
    rfl

set_option maxRecDepth 100000 in
set_option maxHeartbeats 400000 in
theorem primes19 (w0 : World) : Calls Tryd.prog 27 #[] w0 fun e w' => e = .returned (.agg ((primesL 310).map encD).toArray) ∧ Below w0.heap.size w0 w' := by
  refine calls_fs (vs := []) 33 [] Tryd.func27 rfl rfl rfl rfl rfl fun a hF => ?_
  refine wp_rs fun K1 hK1 => ?_
  refine s_alloc hF (by decide) zero50 fun w1 b0 a e0 m0 B0 z0 hF => ?_
  refine s_end (hK1 _ _ ?_)
  refine wp_rs fun K2 hK2 => ?_
  refine s_alloc hF (by decide) zero50 fun w2 b1 a e1 m1 B1 z1 hF => ?_
  refine s_end (hK2 _ _ ?_)
  refine wp_rs fun K3 hK3 => ?_
  refine s_val hF (x_assign (v := .int .i64 ((0 : Nat) : Int)) rfl) (by decide) fun a hF => ?_
  refine s_end (hK3 _ _ ?_)
  refine wp_seq_k fun K4 hK4 => ?_
  refine wp_rs fun K5 hK5 => ?_
  refine s_val hF (x_assign (v := encD (UInt64.ofNat (2 + 0))) rfl) (by decide) fun a hF => ?_
  refine s_end (hK5 _ _ ?_)
  refine wp_block ?_
  refine wp_up 310 (fun k a w => Blk w b1 67 ((pad 64 0 (primesL k)).map encD) ∧ Blk w b0 67 ((List.replicate 64 (0 : UInt64)).map encD) ∧ Below w0.heap.size w0 w ∧ Fs 33 a [(2, .int .i64 ((primesL k).length : Int)), (3, encD (UInt64.ofNat (2 + k))), (0, .pointer (some ⟨b0, 0, none⟩)), (1, .pointer (some ⟨b1, 0, none⟩))]) ⟨by rw [show primesL 0 = [] by rw [primesL], pad_nil]; exact m1, m0.old B1, B0.trans (B1.mono (by omega)), by rw [show primesL 0 = [] by rw [primesL]]; exact hF.sub _ rfl⟩ ?_
  clear hF m1 m0
  rintro k a w hk ⟨m1, m0, hB, hF⟩ K' hK'
  refine wp_seq_k fun K6 hK6 => ?_
  refine wp_rs fun K7 hK7 => ?_
  refine s_val hF (x_move rfl) (by decide) fun a hF => ?_
  refine s_val hF (x_lss (b := decide ((primesL k).length < 64)) (by congr 1; simp; omega) rfl rfl) (by decide) fun a hF => ?_
  refine s_end (hK7 _ _ ?_)
  refine wp_iff hF rfl (fun hc8 => ?_) (fun hc8 => ?_)
  · have hk310 : k < 310 := by
      rcases Nat.lt_or_ge k 310 with h | h
      · exact h
      · have : k = 310 := by omega
        subst this
        rw [primes310] at hc8
        omega
    refine wp_skip (hK6 _ _ ?_)
    refine wp_seq_k fun K8 hK8 => ?_
    refine wp_block ?_
    refine wp_rs fun K9 hK9 => ?_
    refine s_val hF (x_assign rfl) (by decide) fun a hF => ?_
    refine s_end (hK9 _ _ ?_)
    refine wp_seq_k fun K10 hK10 => ?_
    refine wp_rs fun K11 hK11 => ?_
    refine s_val hF (x_move rfl) (by decide) fun a hF => ?_
    refine s_val hF (x_slice (vlo := none) (vhi := some (.int .i64 ((primesL k).length : Int))) (vmx := none) rfl rfl rfl rfl (m_sliceAu (primesL k).length Tryd.underlying67 (size_flat flat29) rfl (by omega))) (by decide) fun a hF => ?_
    refine s_val hF (x_len Tryd.underlying74 rfl) (by decide) fun a hF => ?_
    refine s_val hF (x_move rfl) (by decide) fun a hF => ?_
    refine s_end (hK11 _ _ ?_)
    refine wp_block ?_
    refine wp_up (primesL k).length (fun i a w => Blk w b1 67 ((pad 64 0 (primesL k)).map encD) ∧ Blk w b0 67 ((List.replicate 64 (0 : UInt64)).map encD) ∧ Below w0.heap.size w0 w ∧ Fs 33 a [(14, .int .i64 (i : Int)), (13, .int .i64 ((primesL k).length : Int)), (12, .slice (some ⟨b1, 0, none⟩) (primesL k).length 64), (4, .bool (isP ((primesL k).take i) (UInt64.ofNat (2 + k)))), (2, .int .i64 ((primesL k).length : Int)), (3, encD (UInt64.ofNat (2 + k))), (0, .pointer (some ⟨b0, 0, none⟩)), (1, .pointer (some ⟨b1, 0, none⟩))]) ⟨m1, m0, hB, hF.sub _ rfl⟩ ?_
    clear hF m1 m0 hB
    rintro i a w hi ⟨m1, m0, hB, hF⟩ K2' hK2'
    refine wp_rs fun K12 hK12 => ?_
    refine s_val hF (x_lss rfl rfl rfl) (by decide) fun a hF => ?_
    refine s_end (hK12 _ _ ?_)
    refine wp_seq_k fun K13 hK13 => ?_
    refine wp_iff hF rfl (fun hc15 => ?_) (fun hc15 => ?_)
    · refine wp_skip (hK13 _ _ ?_)
      refine wp_seq_k fun K14 hK14 => ?_
      refine wp_block ?_
      refine wp_rs fun K15 hK15 => ?_
      refine s_val hF (x_ixa rfl rfl (m_ixs i Tryd.underlying74 (size_flat flat29) rfl (by omega))) (by decide) fun a hF => ?_
      refine s_val hF (x_load rfl (m_load flat29 (cellPD m1 i (by omega)))) (by decide) fun a hF => ?_
      refine s_val hF (x_assign rfl) (by decide) fun a hF => ?_
      refine s_end (hK15 _ _ ?_)
      cases hs0 : isP ((primesL k).take i) (UInt64.ofNat (2 + k)) with
      | false =>
        rw [hs0] at hF
        have hsn : isP ((primesL k).take (i + 1)) (UInt64.ofNat (2 + k)) = false := by rw [isP_succ _ _ i (by omega), hs0]; rfl
        refine wp_region_lit ?_
        refine s_val hF (x_move rfl) (by decide) fun a hF => ?_
        refine s_val hF (x_move rfl) (by decide) fun a hF => ?_
        refine s_grdn 19 hF rfl rfl (by decide) fun a hF => ?_
        refine s_grdn 19 hF rfl rfl (by decide) fun a hF => ?_
        refine s_grdn 19 hF rfl rfl (by decide) fun a hF => ?_
        refine s_grdn 19 hF rfl rfl (by decide) fun a hF => ?_
        refine s_val hF (x_pick rfl rfl) (by decide) fun a hF => ?_
        refine s_val hF (x_assign rfl) (by decide) fun a hF => ?_
        refine s_end (hK14 _ _ ?_)
        refine wp_region_lit ?_
        refine s_val hF (x_addn (i + 1) (by omega) (by omega) rfl rfl) (by decide) fun a hF => ?_
        refine s_val hF (x_move rfl) (by decide) fun a hF => ?_
        refine s_end (hK2' _ _ (by omega) ⟨m1, m0, hB, by rw [hsn]; exact hF.sub _ rfl⟩)
      | true =>
        rw [hs0] at hF
        have hsn : isP ((primesL k).take (i + 1)) (UInt64.ofNat (2 + k)) = decide (UInt64.ofNat (2 + k) % (primesL k).getD i 0 ≠ 0) := by rw [isP_succ _ _ i (by omega), hs0, Bool.true_and]
        refine wp_region_lit ?_
        refine s_val hF (x_move rfl) (by decide) fun a hF => ?_
        refine s_val hF (x_move rfl) (by decide) fun a hF => ?_
        refine s_grd 19 hF rfl rfl rfl ?_
        refine s_val hF (x_move rfl) (by decide) fun a hF => ?_
        refine s_grd 19 hF rfl rfl rfl ?_
        refine s_val hF (x_move rfl) (by decide) fun a hF => ?_
        refine s_grd 19 hF rfl rfl rfl ?_
        refine s_val hF (x_rem64 (primesL_pos k (by omega) _ (List.mem_of_getElem? (getD_get (primesL k) i 0 (by omega)))) rfl rfl) (by decide) fun a hF => ?_
        refine s_grd 19 hF rfl rfl rfl ?_
        refine s_val hF (x_neq (b := decide (UInt64.ofNat (2 + k) % (primesL k).getD i 0 ≠ 0)) (by rw [Bool.eq_iff_iff, decide_eq_true_eq, decide_eq_true_eq]; exact not_congr (u64_zero _)) rfl rfl) (by decide) fun a hF => ?_
        refine s_val hF (x_pick rfl rfl) (by decide) fun a hF => ?_
        refine s_val hF (x_assign rfl) (by decide) fun a hF => ?_
        refine s_end (hK14 _ _ ?_)
        refine wp_region_lit ?_
        refine s_val hF (x_addn (i + 1) (by omega) (by omega) rfl rfl) (by decide) fun a hF => ?_
        refine s_val hF (x_move rfl) (by decide) fun a hF => ?_
        refine s_end (hK2' _ _ (by omega) ⟨m1, m0, hB, by rw [hsn]; exact hF.sub _ rfl⟩)
    · obtain rfl : i = (primesL k).length := by omega
      rw [List.take_length] at hF
      refine wp_exit (hK10 _ _ ?_)
      refine wp_rs fun K16 hK16 => ?_
      refine s_val hF (x_move rfl) (by decide) fun a hF => ?_
      refine s_end (hK16 _ _ ?_)
      refine wp_ifb hF rfl (fun hc26 => ?_) (fun hc26 => ?_)
      · have hps : primesL (k + 1) = primesL k ++ [UInt64.ofNat (2 + k)] := by rw [primesL, hc26]; rfl
        refine wp_rs fun K17 hK17 => ?_
        refine s_val hF (x_move rfl) (by decide) fun a hF => ?_
        refine s_val hF (x_move rfl) (by decide) fun a hF => ?_
        refine s_val hF (x_ixa rfl rfl (m_ixa0 (primesL k).length Tryd.underlying67 (size_flat flat29) rfl (by omega))) (by decide) fun a hF => ?_
        refine s_put hF rfl rfl flat29 m1 (by rw [len_padD (by omega)]; omega) rfl fun w3 m3 o3 => ?_
        rw [set_padD _ _ rfl (by omega)] at m3
        refine s_end (hK17 _ _ ?_)
        refine wp_region_lit ?_
        refine s_val hF (x_move rfl) (by decide) fun a hF => ?_
        refine s_val hF (x_addn ((primesL k).length + 1) (by omega) (by omega) rfl rfl) (by decide) fun a hF => ?_
        refine s_val hF (x_assign rfl) (by decide) fun a hF => ?_
        refine s_end (hK8 _ _ ?_)
        refine wp_region_lit ?_
        refine s_val hF (x_move rfl) (by decide) fun a hF => ?_
        refine s_val hF (x_add64 (q := 1) rfl rfl) (by decide) fun a hF => ?_
        refine s_val hF (x_assign rfl) (by decide) fun a hF => ?_
        refine s_end (hK' _ _ (by omega) ⟨by rw [hps]; exact m3, m0.only o3 (by omega), hB.trans (o3.below (by omega)), by rw [hps, List.length_append, ← ofNat_succ]; exact hF.sub _ rfl⟩)
      · have hps : primesL (k + 1) = primesL k := by rw [primesL, hc26]; rfl
        refine wp_skip (hK8 _ _ ?_)
        refine wp_region_lit ?_
        refine s_val hF (x_move rfl) (by decide) fun a hF => ?_
        refine s_val hF (x_add64 (q := 1) rfl rfl) (by decide) fun a hF => ?_
        refine s_val hF (x_assign rfl) (by decide) fun a hF => ?_
        refine s_end (hK' _ _ (by omega) ⟨by rw [hps]; exact m1, m0, hB, by rw [hps, ← ofNat_succ]; exact hF.sub _ rfl⟩)
  · obtain rfl : k = 310 := by
      rcases Nat.lt_or_ge k 310 with h | h
      · exact absurd (primes_lt h) hc8
      · omega
    have hl64 : ((primesL 310).map encD).length = 64 := by rw [List.length_map, primes310]
    rw [pad_full 64 0 _ primes310] at m1
    refine wp_exit (hK4 _ _ ?_)
    refine wp_rs fun K18 hK18 => ?_
    refine s_val hF (x_load rfl (m_loadW (by rw [hl64]; exact wide50) m1)) (by decide) fun a hF => ?_
    refine s_putW hF rfl rfl (by rw [hl64]; exact size_wide wide50) m0 (by rw [hl64]; rfl) (oneD _) fun w9 m9 o9 => ?_
    refine s_end (hK18 _ _ ?_)
    refine wp_ret (res_cell hF rfl rfl m9 (by rw [hl64]; exact wide50) ⟨rfl, hB.trans (o9.below (by omega))⟩)
end Go.Proofs.YtefpenjcgplamaaDoor
