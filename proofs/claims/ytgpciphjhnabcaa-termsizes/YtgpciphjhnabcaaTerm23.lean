/- The reference's Size, depth, Depth. -/
import Derived.Test.YtgpciphjhnabcaaTerm21
namespace Go.Proofs.Ytgpciphjhnabcaa
open Go.RowKit Go.Shelf
set_option linter.unusedVariables false
set_option linter.unusedSimpArgs false

def dps (ks : List CT) : Nat := ks.foldl (fun m k => max m k.dep) 0
theorem dps_at {ks : List CT} {k : CT} {i : Nat} (h : ks[i]? = some k) : dps (ks.take (i + 1)) = max (dps (ks.take i)) k.dep := by
  have e2 : ks.take (i + 1) = ks.take i ++ [k] := by rw [List.take_add_one, h]; rfl
  rw [e2]
  simp [dps]
theorem CT.dep_dps (c : CT) : c.dep = dps c.kids + 1 := by cases c <;> simp [CT.dep, CT.kids, dps] <;> omega
theorem x_imaxT {P : Program} {n : Nat} {l : List (Nat × Value)} {w : World} {ts : Array TypeId} {x y : Operand} {p q : Nat} (hx : ov l x = some (.int .i64 (p : Int))) (hy : ov l y = some (.int .i64 (q : Int))) : Runs P n l w (.call { callee := .builtin .max, args := #[x, y], argTypes := ts }) (.int .i64 ((max p q : Nat) : Int)) := by
  have := x_imax (P := P) (n := n) (w := w) (ts := ts) hx hy
  rwa [show max (p : Int) q = ((max p q : Nat) : Int) by omega] at this

set_option maxRecDepth 100000 in
set_option maxHeartbeats 400000 in
theorem Size26 (c : CT) (x : C8) (w0 : World) (hx : RC w0 (fun k => k < w0.heap.size) c x) : Calls Try.prog 26 #[tv x] w0 fun e w' => e = .returned (.int .i64 (c.mN : Int)) ∧ Below w0.heap.size w0 w' := by
  have hB := Below.refl w0.heap.size w0
  have sB := hB.size
  refine calls_fs 8 [(0, tv x)] Try.func26 rfl rfl rfl rfl rfl fun a hF => ?_
  refine wp_rs fun K1 hK1 => ?_
  refine s_box (tc x) hF (by decide) rfl rfl fun w2 b1 a eb1 m1 B3 zb1 hF => ?_
  have sB3 := B3.size
  have hB := hB.trans (B3.mono hB.size)
  refine s_val hF (x_assign rfl) (by decide) fun a hF => ?_
  refine s_end (hK1 _ _ ?_)
  refine wp_rs fun K2 hK2 => ?_
  refine s_alloc1 hF (by decide) zero3 rfl fun w4 b3 a eb3 m3 B5 zb3 hF => ?_
  have sB5 := B5.size
  have hB := hB.trans (B5.mono hB.size)
  have m1 := m1.old B5
  refine s_put hF rfl rfl flat3 m3 (by first | (simp; done) | (simp [tc, lc]; done) | decide) rfl fun w6 m3 o7 => ?_
  have so7 := o7.size
  have hB := hB.trans (o7.below (by omega))
  have m1 := m1.only o7 (by omega)
  refine s_end (hK2 _ _ ?_)
  refine wp_seq_k fun K3 hK3 => ?_
  refine wp_rs fun K4 hK4 => ?_
  refine s_val hF (x_ldW wide27 m1 rfl rfl) (by decide) fun a hF => ?_
  refine s_call (R := fun u w' => (∃ b m, u = .bool b ∧ Blk w' b3 3 [.int .i64 ((m : Nat) : Int)] ∧ cntR c 1 0 b m) ∧ Ktw b3 b3 w6 w') hF [_, _, _] (enters_of Try.func55 (by kernel_rfl) rfl) rfl (by decide) (count55 w0 b3 (by omega) (c.size + 1) c x (by omega) hx 1 0 w6 (by decide) (by decide) (by decide) hB m3) ?_
  rintro _ w8 a ⟨⟨b8, m8, rfl, m3, hc8⟩, k9⟩ hF
  have sk9 := k9.size
  have hB := k9.under hB (by omega)
  have m1 := m1.k2 k9 (by omega)
  have hbo : b8 = decide c.ok := by
    have hsp := c.size_pos
    cases b8
    · exact (decide_eq_false fun h => hc8.2.2 rfl ⟨by have := h.1; omega, by have := h.2; omega⟩).symm
    · have h := hc8.2.1 rfl
      exact (decide_eq_true (show c.ok from ⟨by omega, by omega⟩)).symm
  refine s_val hF (x_not rfl) (by decide) fun a hF => ?_
  refine s_end (hK4 _ _ ?_)
  refine wp_ifb hF rfl (fun hc6 => ?_) (fun hc6 => ?_)
  · obtain rfl : b8 = false := by simpa using hc6
    refine wp_rs fun K5 hK5 => ?_
    refine s_val hF (x_assign rfl) (by decide) fun a hF => ?_
    refine s_end (hK5 _ _ ?_)
    have hz : c.mN = 0 := if_neg (of_decide_eq_false hbo.symm)
    refine wp_ret (then_ret ((res_slot hF rfl rfl ⟨by rw [hz]; rfl, hB⟩)))
  · obtain rfl : b8 = true := by simpa using hc6
    refine wp_skip (hK3 _ _ ?_)
    refine wp_rs fun K6 hK6 => ?_
    refine s_val hF (x_load rfl (m_load flat3 (m3.cell (j := 0) rfl))) (by decide) fun a hF => ?_
    refine s_val hF (x_assign rfl) (by decide) fun a hF => ?_
    refine s_end (hK6 _ _ ?_)
    have hz : c.mN = m8 := by rw [CT.mN, if_pos (of_decide_eq_true hbo.symm)]; have := (hc8.2.1 rfl).1; omega
    refine wp_ret (res_slot hF rfl rfl ⟨by rw [hz], hB⟩)

set_option maxRecDepth 100000 in
set_option maxHeartbeats 400000 in
theorem depth75 : ∀ (N : Nat) (c : CT) (x : C8) (w0 : World), c.size < N → c.size ≤ 1000000 → RC w0 (fun k => k < w0.heap.size) c x → Calls Try.prog 75 #[tv x] w0 fun e w' => e = .returned (.int .i64 (c.dep : Int)) ∧ Below w0.heap.size w0 w' := by
  intro N
  induction N with
  | zero => intro s x w0 h; omega
  | succ N ih =>
  intro c x w0 hN hN2 hx
  have hrg := arT_rng c.kd
  have hdd := c.dep_dps
  have hk9 := CT.kids_arT hx
  have h3 := c.kids_le
  have hdl := c.dep_le
  obtain ⟨av, nv, cv, hts, hle9, hlen9, hcap, hkid⟩ := hx.kids
  obtain ⟨xk, xn, xs, xl, xls, xts⟩ := x
  simp only at hts
  subst hts
  have hkd : xk = c.kd := hx.kd
  have hone := hx.one
  have hB := Below.refl w0.heap.size w0
  have sB := hB.size
  refine calls_fs 27 [(0, tv ⟨xk, xn, xs, xl, xls, .slice av nv cv⟩)] Try.func75 rfl rfl rfl rfl rfl fun a hF => ?_
  refine wp_rs fun K1 hK1 => ?_
  refine s_box ([.int .i64 xk, .int .i64 xn, .string xs, .int .i64 xl.1, .int .i64 xl.2.1, xl.2.2, xls, .slice av nv cv]) hF (by decide) rfl rfl fun w2 b1 a eb1 m1 B3 zb1 hF => ?_
  have sB3 := B3.size
  have hB := hB.trans (B3.mono hB.size)
  refine s_val hF (x_assign rfl) (by decide) fun a hF => ?_
  refine s_end (hK1 _ _ ?_)
  refine wp_rs fun K2 hK2 => ?_
  refine s_val hF (x_assign rfl) (by decide) fun a hF => ?_
  refine s_end (hK2 _ _ ?_)
  refine wp_seq_k fun K3 hK3 => ?_
  rcases (show ((arT c.kd < 0 ∨ (c.len : Int) < arT c.kd) ∧ c.kids.length = 0) ∨ (¬ (arT c.kd < 0 ∨ (c.len : Int) < arT c.kd) ∧ (c.kids.length : Int) = arT c.kd) by omega) with hy | hy
  · skip
    refine wp_rs fun K5 hK5 => ?_
    refine s_val hF (x_ldW wide27 m1 rfl rfl) (by decide) fun a hF => ?_
    refine s_callB [_] hF (enters_of Try.func70 (by kernel_rfl) rfl) rfl (by decide) ((leaf70 c ⟨xk, xn, xs, xl, xls, .slice av nv cv⟩ _ w0 w2 hx).mono fun e w' h => ⟨by rw [h.1, decide_eq_true hy.1], h.2⟩) fun w4 a B5 hF => ?_
    have sB5 := B5.size
    have hB := hB.trans (B5.mono hB.size)
    have m1 := m1.old B5
    refine s_val hF (x_not rfl) (by decide) fun a hF => ?_
    refine s_end (hK5 _ _ ?_)
    refine wp_if hF rfl ?_
    refine wp_skip (hK3 _ _ ?_)
    refine wp_rs fun K6 hK6 => ?_
    refine s_val hF (x_move rfl) (by decide) fun a hF => ?_
    refine s_val hF (x_addn (0 + 1) rfl (by decide) rfl rfl) (by decide) fun a hF => ?_
    refine s_val hF (x_assign rfl) (by decide) fun a hF => ?_
    refine s_end (hK6 _ _ ?_)
    have hk0 : c.kids = [] := List.eq_nil_of_length_eq_zero hy.2
    rw [hk0] at hdd
    refine wp_ret (res_slot hF rfl rfl ⟨by rw [hdd]; rfl, hB⟩)
  · skip
    refine wp_rs fun K7 hK7 => ?_
    refine s_val hF (x_ldW wide27 m1 rfl rfl) (by decide) fun a hF => ?_
    refine s_callB [_] hF (enters_of Try.func70 (by kernel_rfl) rfl) rfl (by decide) ((leaf70 c ⟨xk, xn, xs, xl, xls, .slice av nv cv⟩ _ w0 w2 hx).mono fun e w' h => ⟨by rw [h.1, decide_eq_false hy.1], h.2⟩) fun w6 a B7 hF => ?_
    have sB7 := B7.size
    have hB := hB.trans (B7.mono hB.size)
    have m1 := m1.old B7
    refine s_val hF (x_not rfl) (by decide) fun a hF => ?_
    refine s_end (hK7 _ _ ?_)
    refine wp_if hF rfl ?_
    refine dk2_seq (w6.heap.size) (w6.heap.size) (ops := regOps Try.f75 3) (N := 8) (by kernel_rfl) wide_orders (by kernel_rfl) fun w8 hw8 B9 hS K8 hK8 => ?_
    have zw8 : w8.heap.size = w6.heap.size := by rw [hw8]
    have sB9 := B9.size
    have hB := hB.trans (B9.mono hB.size)
    have m1 := m1.old B9
    have m1_d := m1
    have hB_d := hB
    refine d_val 0 9 (op := (Go.Op.fieldAddr 27 (Go.Operand.tmp 1) 5)) hF hS (by kernel_rfl) (fun W hW => x_fa0 fa27_5 rfl) (by kernel_rfl) (by decide) fun a hF => ?_
    refine d_val 1 10 (op := (Go.Op.load 25 (Go.Operand.tmp 9))) hF hS (by kernel_rfl) (fun W hW => x_load rfl (m_load flat25 ((m1_d.k2 hW (by omega)).cell (j := 7) rfl))) (by kernel_rfl) (by decide) fun a hF => ?_
    refine d_val 2 11 (op := (Go.Op.fieldAddr 27 (Go.Operand.tmp 1) 0)) hF hS (by kernel_rfl) (fun W hW => x_fa0 fa27_0 rfl) (by kernel_rfl) (by decide) fun a hF => ?_
    refine d_val 3 12 (op := (Go.Op.load 3 (Go.Operand.tmp 11))) hF hS (by kernel_rfl) (fun W hW => x_load rfl (m_load flat3 ((m1_d.k2 hW (by omega)).cell (j := 0) rfl))) (by kernel_rfl) (by decide) fun a hF => ?_
    refine d_val 7 16 (op := (Go.Op.move (Go.Operand.const (Go.Value.int Go.IntKind.i64 0)))) hF hS (by kernel_rfl) (fun W hW => x_move rfl) (by kernel_rfl) (by decide) fun a hF => ?_
    refine d_one 4 (some 13) (Go.Op.call (Go.Call.mk (Go.Callee.value (Go.Operand.func 54)) #[(Go.Operand.tmp 12)] #[3])) (by kernel_rfl) (by kernel_rfl) fun ty pos af => ?_
    refine s_callS [_] hF (enters_of Try.func54 (by kernel_rfl) rfl) rfl (by decide) ((kids54 xk w8).mono fun e w' h => ⟨(by rw [h.1, hkd, ← hy.2] : e = .returned (.int .i64 (c.kids.length : Int))), h.2⟩) fun a hF => ?_
    refine s_end ⟨hS, ?_⟩
    refine d_val 5 14 (op := (Go.Op.slice 25 (Go.Operand.tmp 10) none (some (Go.Operand.tmp 13)) none)) hF hS (by kernel_rfl) (fun W hW => x_slice (vlo := none) (vhi := some _) (vmx := none) rfl rfl rfl rfl (m_sliceUK c.kids.length Try.underlying25 el25.size (by omega) (by omega))) (by kernel_rfl) (by decide) fun a hF => ?_
    refine d_val 6 15 (op := (Go.Op.call (Go.Call.mk (Go.Callee.builtin Go.Builtin.len) #[(Go.Operand.tmp 14)] #[25]))) hF hS (by kernel_rfl) (fun W hW => x_len Try.underlying25 rfl) (by kernel_rfl) (by decide) fun a hF => ?_
    refine d_end (by kernel_rfl) (hK8 _ _ ?_)
    refine wp_block ?_
    refine wp_up c.kids.length (fun i a w => ∃ m : Nat, m = dps (c.kids.take i) ∧ m ≤ 1000000 ∧ Below w0.heap.size w0 w ∧ Fs 27 a [(3, .int .i64 (m : Int)), (14, .slice av c.kids.length cv), (15, .int .i64 (c.kids.length : Int)), (16, .int .i64 (i : Int))]) ⟨0, by simp [dps], by omega, hB, hF.sub _ rfl⟩ ?_
    repeat clear hF
    clear hB
    rintro i a w hi ⟨m, hm, hm2, hB, hF⟩ K' hK'
    have sB := hB.size
    refine wp_rs fun K9 hK9 => ?_
    refine s_val hF (x_lss (b := decide (i < c.kids.length)) (decide_eq_decide.2 (by omega)) rfl rfl) (by decide) fun a hF => ?_
    refine s_end (hK9 _ _ ?_)
    refine wp_seq_k fun K10 hK10 => ?_
    refine wp_iff hF rfl (fun hc17 => ?_) (fun hc17 => ?_)
    · obtain ⟨b9, off9, c9, y, kd, hve, hyk, hry, hAb, hbl, hrow⟩ := hkid.row (i := i) (by omega)
      cases hve
      have hks := CT.kid_size hyk
      have hdt := dps_at hyk
      have hdk := kd.dep_le
      refine wp_skip (hK10 _ _ ?_)
      refine wp_seq_k fun K11 hK11 => ?_
      refine wp_block ?_
      refine wp_rs fun K12 hK12 => ?_
      refine s_val hF (x_ixa rfl rfl (m_ixsK i Try.underlying25 el25.size rfl (by omega))) (by decide) fun a hF => ?_
      refine s_val hF (x_ldA wide27 (hrow _ (hB.block _ hbl)) rfl rfl) (by decide) fun a hF => ?_
      refine s_alloc hF (by decide) zero27 fun w10 b5 a eb5 m5 B11 zb5 hF => ?_
      have sB11 := B11.size
      have hB := hB.trans (B11.mono hB.size)
      refine s_putW hF rfl rfl (size_wide wide27) m5 rfl hry.one fun w14 m5 o15 => ?_
      have so15 := o15.size
      have hB := hB.trans (o15.below (by omega))
      refine s_end (hK12 _ _ ?_)
      refine wp_region_lit ?_
      refine s_val hF (x_move rfl) (by decide) fun a hF => ?_
      refine s_val hF (x_ldW wide27 m5 rfl rfl) (by decide) fun a hF => ?_
      refine s_callB [_] hF (enters_of Try.func75 (by kernel_rfl) rfl) rfl (by decide) (ih kd y w14 (by omega) (by omega) (hry.bel hB)) fun w16 a B17 hF => ?_
      have sB17 := B17.size
      have hB := hB.trans (B17.mono hB.size)
      have m5 := m5.old B17
      refine s_val hF (x_imaxT rfl rfl) (by decide) fun a hF => ?_
      refine s_val hF (x_assign rfl) (by decide) fun a hF => ?_
      refine s_end (hK11 _ _ ?_)
      refine wp_region_lit ?_
      refine s_val hF (x_addn (i + 1) (by omega) (by omega) rfl rfl) (by decide) fun a hF => ?_
      refine s_val hF (x_move rfl) (by decide) fun a hF => ?_
      refine s_end (hK' _ _ (by omega) ⟨_, by rw [hdt, ← hm], by omega, hB, hF.sub _ rfl⟩)
    · obtain rfl : i = c.kids.length := by omega
      rw [List.take_length] at hm
      refine wp_exit (hK3 _ _ ?_)
      refine wp_rs fun K13 hK13 => ?_
      refine s_val hF (x_move rfl) (by decide) fun a hF => ?_
      refine s_val hF (x_addn (m + 1) (by omega) (by omega) rfl rfl) (by decide) fun a hF => ?_
      refine s_val hF (x_assign rfl) (by decide) fun a hF => ?_
      refine s_end (hK13 _ _ ?_)
      refine wp_ret (res_slot hF rfl rfl ⟨by rw [hdd, ← hm], hB⟩)

set_option maxRecDepth 100000 in
set_option maxHeartbeats 400000 in
theorem Depth35 (c : CT) (x : C8) (w0 : World) (hx : RC w0 (fun k => k < w0.heap.size) c x) : Calls Try.prog 35 #[tv x] w0 fun e w' => e = .returned (.int .i64 (c.mD : Int)) ∧ Below w0.heap.size w0 w' := by
  have hB := Below.refl w0.heap.size w0
  have sB := hB.size
  refine calls_fs 7 [(0, tv x)] Try.func35 rfl rfl rfl rfl rfl fun a hF => ?_
  refine wp_rs fun K1 hK1 => ?_
  refine s_box (tc x) hF (by decide) rfl rfl fun w2 b1 a eb1 m1 B3 zb1 hF => ?_
  have sB3 := B3.size
  have hB := hB.trans (B3.mono hB.size)
  refine s_val hF (x_assign rfl) (by decide) fun a hF => ?_
  refine s_end (hK1 _ _ ?_)
  refine wp_seq_k fun K2 hK2 => ?_
  rcases (show ¬ c.ok ∨ c.ok by by_cases h : c.ok <;> simp [h]) with hk1 | hk1
  · skip
    refine wp_rs fun K4 hK4 => ?_
    refine s_val hF (x_ldW wide27 m1 rfl rfl) (by decide) fun a hF => ?_
    refine s_callB [_] hF (enters_of Try.func14 (by kernel_rfl) rfl) rfl (by decide) ((TooGreat14 c x w2 (hx.bel hB)).mono fun e w' h => ⟨by rw [h.1, decide_eq_true hk1], h.2⟩) fun w4 a B5 hF => ?_
    have sB5 := B5.size
    have hB := hB.trans (B5.mono hB.size)
    have m1 := m1.old B5
    refine s_end (hK4 _ _ ?_)
    refine wp_if hF rfl ?_
    refine wp_rs fun K5 hK5 => ?_
    refine s_val hF (x_assign rfl) (by decide) fun a hF => ?_
    refine s_end (hK5 _ _ ?_)
    have hz : c.mD = 0 := if_neg hk1
    refine wp_ret (then_ret (res_slot hF rfl rfl ⟨by rw [hz]; rfl, hB⟩))
  · skip
    refine wp_rs fun K6 hK6 => ?_
    refine s_val hF (x_ldW wide27 m1 rfl rfl) (by decide) fun a hF => ?_
    refine s_callB [_] hF (enters_of Try.func14 (by kernel_rfl) rfl) rfl (by decide) ((TooGreat14 c x w2 (hx.bel hB)).mono fun e w' h => ⟨by rw [h.1, decide_eq_false (fun h => h hk1)], h.2⟩) fun w6 a B7 hF => ?_
    have sB7 := B7.size
    have hB := hB.trans (B7.mono hB.size)
    have m1 := m1.old B7
    refine s_end (hK6 _ _ ?_)
    refine wp_if hF rfl ?_
    refine wp_skip (hK2 _ _ ?_)
    refine wp_rs fun K7 hK7 => ?_
    refine s_val hF (x_ldW wide27 m1 rfl rfl) (by decide) fun a hF => ?_
    refine s_callB [_] hF (enters_of Try.func75 (by kernel_rfl) rfl) rfl (by decide) (depth75 (c.size + 1) c x w6 (by omega) (by have := hk1.1; omega) (hx.bel hB)) fun w8 a B9 hF => ?_
    have sB9 := B9.size
    have hB := hB.trans (B9.mono hB.size)
    have m1 := m1.old B9
    refine s_val hF (x_assign rfl) (by decide) fun a hF => ?_
    refine s_end (hK7 _ _ ?_)
    have hz : c.mD = c.dep := if_pos hk1
    refine wp_ret (res_slot hF rfl rfl ⟨by rw [hz], hB⟩)
end Go.Proofs.Ytgpciphjhnabcaa
