/- The reference's count, TooGreat. -/
import Derived.Test.YtgpciphjhnabcaaTerm17
namespace Go.Proofs.Ytgpciphjhnabcaa
open Go.RowKit Go.Shelf
set_option linter.unusedVariables false
set_option linter.unusedSimpArgs false

def szs (ks : List CT) : Nat := (ks.map CT.size).sum
theorem szs_at {ks : List CT} {k : CT} {i : Nat} (h : ks[i]? = some k) : szs (ks.take (i + 1)) = szs (ks.take i) + k.size ∧ szs (ks.take (i + 1)) ≤ szs ks := by
  have e := split_at h
  have e2 : ks.take (i + 1) = ks.take i ++ [k] := by rw [List.take_add_one, h]; rfl
  refine ⟨by rw [e2]; simp [szs], ?_⟩
  rw [e2]
  conv => rhs; rw [e]
  simp [szs]
theorem CT.size_szs (c : CT) : c.size = szs c.kids + 1 := by cases c <;> simp [CT.size, CT.kids, szs] <;> omega
theorem CT.dep_top (c : CT) (M : Int) (hM : 0 ≤ M) (h : ∀ k ∈ c.kids, (k.dep : Int) ≤ M) : (c.dep : Int) ≤ M + 1 := by
  cases c with
  | two k a b m =>
    have h1 := h a (by simp [CT.kids])
    have h2 := h b (by simp [CT.kids])
    simp only [CT.dep]
    omega
  | lt a b c m =>
    have h1 := h a (by simp [CT.kids])
    have h2 := h b (by simp [CT.kids])
    have h3 := h c (by simp [CT.kids])
    simp only [CT.dep]
    omega
  | _ => simp only [CT.dep]; omega
/-- What count tells: that it goes, and how many there are then; that it doesn't. -/
def cntR (c : CT) (d : Int) (n : Nat) (b : Bool) (m : Nat) : Prop := m ≤ 20001 ∧ (b = true → m = n + c.size ∧ d + c.dep ≤ 2001 ∧ (m ≤ 20000 ∨ c.size = 1)) ∧ (b = false → ¬ (n + c.size ≤ 20000 ∧ d + c.dep ≤ 2001))

set_option maxRecDepth 100000 in
set_option maxHeartbeats 400000 in
theorem count55 (w0 : World) (g : Nat) (hg : w0.heap.size ≤ g) : ∀ (N : Nat) (c : CT) (x : C8), c.size < N → RC w0 (fun k => k < w0.heap.size) c x → ∀ (d : Int) (n : Nat) (w1 : World), 0 ≤ d → d ≤ 2001 → n ≤ 20000 → Below w0.heap.size w0 w1 → Blk w1 g 3 [.int .i64 (n : Int)] →
    Calls Try.prog 55 #[tv x, .int .i64 d, .pointer (some ⟨g, 0, none⟩)] w1 fun e w' => ∃ u, e = .returned u ∧ (∃ b m, u = .bool b ∧ Blk w' g 3 [.int .i64 ((m : Nat) : Int)] ∧ cntR c d n b m) ∧ Ktw g g w1 w' := by
  intro N
  induction N with
  | zero => intro s x h; omega
  | succ N ih =>
  intro c x hN hx d n w1 hd0 hd1 hn hB mg
  have hK := Ktw.refl g g w1
  have sB := hB.size
  have sK := hK.size
  have hgl := mg.lt
  have hrg := arT_rng c.kd
  have hss := c.size_szs
  have hdp := c.dep_pos
  have hk9 := CT.kids_arT hx
  have h3 := c.kids_le
  have hleaf := leaf70 c x _ w0 w1 hx
  obtain ⟨av, nv, cv, hts, hle9, hlen9, hcap, hkid⟩ := hx.kids
  obtain ⟨xk, xn, xs, xl, xls, xts⟩ := x
  simp only at hts
  subst hts
  have hkd : xk = c.kd := hx.kd
  have hone := hx.one
  refine calls_fs 46 [(0, tv ⟨xk, xn, xs, xl, xls, .slice av nv cv⟩), (1, .int .i64 d), (2, .pointer (some ⟨g, 0, none⟩))] Try.func55 rfl rfl rfl rfl rfl fun a hF => ?_
  refine wp_rs fun K1 hK1 => ?_
  refine s_box ([.int .i64 xk, .int .i64 xn, .string xs, .int .i64 xl.1, .int .i64 xl.2.1, xl.2.2, xls, .slice av nv cv]) hF (by decide) rfl rfl fun w2 b3 a eb3 m3 B3 zb3 hF => ?_
  have sB3 := B3.size
  have hB := hB.trans (B3.mono hB.size)
  have hK := hK.below B3
  have mg := mg.old B3
  refine s_val hF (x_assign rfl) (by decide) fun a hF => ?_
  refine s_end (hK1 _ _ ?_)
  refine wp_rs fun K2 hK2 => ?_
  refine s_val hF (x_move rfl) (by decide) fun a hF => ?_
  refine s_val hF (x_nil rfl) (by decide) fun a hF => ?_
  refine s_val hF (x_load rfl (m_load flat3 (mg.cell (j := 0) rfl))) (by decide) fun a hF => ?_
  refine s_val hF (x_addn (n + 1) (by omega) (by omega) rfl rfl) (by decide) fun a hF => ?_
  refine s_val hF (x_nil rfl) (by decide) fun a hF => ?_
  refine s_put hF rfl rfl flat3 mg (by first | (simp; done) | (simp [tc, lc]; done) | decide) rfl fun w4 mg o5 => ?_
  have so5 := o5.size
  have hB := hB.trans (o5.below (by omega))
  have hK := hK.only o5 (by omega)
  have m3 := m3.only o5 (by omega)
  refine s_end (hK2 _ _ ?_)
  refine wp_seq_k fun K3 hK3 => ?_
  rcases (show 2000 < d ∨ ¬ 2000 < d by omega) with hz | hz
  · skip
    refine wp_rs fun K5 hK5 => ?_
    refine s_val hF (x_move rfl) (by decide) fun a hF => ?_
    refine s_val hF (x_gtr (b := true) (decide_eq_true (by omega)) rfl rfl) (by decide) fun a hF => ?_
    refine s_end (hK5 _ _ ?_)
    refine wp_if hF rfl ?_
    refine wp_rs fun K6 hK6 => ?_
    refine s_val hF (x_assign rfl) (by decide) fun a hF => ?_
    refine s_end (hK6 _ _ ?_)
    refine wp_ret (then_ret (res_slot hF rfl rfl ⟨_, rfl, ⟨false, n + 1, rfl, mg, ⟨by omega, (fun h => absurd h (by decide)), fun _ h => by omega⟩⟩, hK⟩))
  · skip
    refine wp_rs fun K7 hK7 => ?_
    refine s_val hF (x_move rfl) (by decide) fun a hF => ?_
    refine s_val hF (x_gtr (b := false) (decide_eq_false (by omega)) rfl rfl) (by decide) fun a hF => ?_
    refine s_end (hK7 _ _ ?_)
    refine wp_if hF rfl ?_
    refine wp_skip (hK3 _ _ ?_)
    refine wp_seq_k fun K8 hK8 => ?_
    rcases (show ((arT c.kd < 0 ∨ (c.len : Int) < arT c.kd) ∧ c.kids.length = 0) ∨ (¬ (arT c.kd < 0 ∨ (c.len : Int) < arT c.kd) ∧ (c.kids.length : Int) = arT c.kd) by omega) with hy | hy
    · skip
      refine wp_rs fun K10 hK10 => ?_
      refine s_val hF (x_ldW wide27 m3 rfl rfl) (by decide) fun a hF => ?_
      refine s_callB [_] hF (enters_of Try.func70 (by kernel_rfl) rfl) rfl (by decide) ((leaf70 c ⟨xk, xn, xs, xl, xls, .slice av nv cv⟩ _ w0 w4 hx).mono fun e w' h => ⟨by rw [h.1, decide_eq_true hy.1], h.2⟩) fun w6 a B7 hF => ?_
      have sB7 := B7.size
      have hB := hB.trans (B7.mono hB.size)
      have hK := hK.below B7
      have mg := mg.old B7
      have m3 := m3.old B7
      refine s_end (hK10 _ _ ?_)
      refine wp_if hF rfl ?_
      refine wp_rs fun K11 hK11 => ?_
      refine s_val hF (x_assign rfl) (by decide) fun a hF => ?_
      refine s_end (hK11 _ _ ?_)
      have hk0 : c.kids = [] := List.eq_nil_of_length_eq_zero hy.2
      have hd9 := c.dep_top 0 (by omega) (by rw [hk0]; simp)
      rw [hk0] at hss
      have hs1 : c.size = 1 := by simpa [szs] using hss
      refine wp_ret (then_ret (res_slot hF rfl rfl ⟨_, rfl, ⟨true, n + 1, rfl, mg, ⟨by omega, fun _ => ⟨by omega, by omega, .inr hs1⟩, fun h => absurd h (by decide)⟩⟩, hK⟩))
    · skip
      refine wp_rs fun K12 hK12 => ?_
      refine s_val hF (x_ldW wide27 m3 rfl rfl) (by decide) fun a hF => ?_
      refine s_callB [_] hF (enters_of Try.func70 (by kernel_rfl) rfl) rfl (by decide) ((leaf70 c ⟨xk, xn, xs, xl, xls, .slice av nv cv⟩ _ w0 w4 hx).mono fun e w' h => ⟨by rw [h.1, decide_eq_false hy.1], h.2⟩) fun w8 a B9 hF => ?_
      have sB9 := B9.size
      have hB := hB.trans (B9.mono hB.size)
      have hK := hK.below B9
      have mg := mg.old B9
      have m3 := m3.old B9
      refine s_end (hK12 _ _ ?_)
      refine wp_if hF rfl ?_
      refine wp_skip (hK8 _ _ ?_)
      refine wp_seq_k fun K13 hK13 => ?_
      refine dk2_seq (w8.heap.size) (w8.heap.size) (ops := regOps Try.f55 6) (N := 8) (by kernel_rfl) wide_orders (by kernel_rfl) fun w10 hw10 B11 hS K14 hK14 => ?_
      have zw10 : w10.heap.size = w8.heap.size := by rw [hw10]
      have sB11 := B11.size
      have hB := hB.trans (B11.mono hB.size)
      have hK := hK.below B11
      have mg := mg.old B11
      have m3 := m3.old B11
      have mg_d := mg
      have m3_d := m3
      have hB_d := hB
      have hK_d := hK
      refine d_val 0 18 (op := (Go.Op.fieldAddr 27 (Go.Operand.tmp 3) 5)) hF hS (by kernel_rfl) (fun W hW => x_fa0 fa27_5 rfl) (by kernel_rfl) (by decide) fun a hF => ?_
      refine d_val 1 19 (op := (Go.Op.load 25 (Go.Operand.tmp 18))) hF hS (by kernel_rfl) (fun W hW => x_load rfl (m_load flat25 ((m3_d.k2 hW (by omega)).cell (j := 7) rfl))) (by kernel_rfl) (by decide) fun a hF => ?_
      refine d_val 2 20 (op := (Go.Op.fieldAddr 27 (Go.Operand.tmp 3) 0)) hF hS (by kernel_rfl) (fun W hW => x_fa0 fa27_0 rfl) (by kernel_rfl) (by decide) fun a hF => ?_
      refine d_val 3 21 (op := (Go.Op.load 3 (Go.Operand.tmp 20))) hF hS (by kernel_rfl) (fun W hW => x_load rfl (m_load flat3 ((m3_d.k2 hW (by omega)).cell (j := 0) rfl))) (by kernel_rfl) (by decide) fun a hF => ?_
      refine d_val 7 25 (op := (Go.Op.move (Go.Operand.const (Go.Value.int Go.IntKind.i64 0)))) hF hS (by kernel_rfl) (fun W hW => x_move rfl) (by kernel_rfl) (by decide) fun a hF => ?_
      refine d_one 4 (some 22) (Go.Op.call (Go.Call.mk (Go.Callee.value (Go.Operand.func 54)) #[(Go.Operand.tmp 21)] #[3])) (by kernel_rfl) (by kernel_rfl) fun ty pos af => ?_
      refine s_callS [_] hF (enters_of Try.func54 (by kernel_rfl) rfl) rfl (by decide) ((kids54 xk w10).mono fun e w' h => ⟨(by rw [h.1, hkd, ← hy.2] : e = .returned (.int .i64 (c.kids.length : Int))), h.2⟩) fun a hF => ?_
      refine s_end ⟨hS, ?_⟩
      refine d_val 5 23 (op := (Go.Op.slice 25 (Go.Operand.tmp 19) none (some (Go.Operand.tmp 22)) none)) hF hS (by kernel_rfl) (fun W hW => x_slice (vlo := none) (vhi := some _) (vmx := none) rfl rfl rfl rfl (m_sliceUK c.kids.length Try.underlying25 el25.size (by omega) (by omega))) (by kernel_rfl) (by decide) fun a hF => ?_
      refine d_val 6 24 (op := (Go.Op.call (Go.Call.mk (Go.Callee.builtin Go.Builtin.len) #[(Go.Operand.tmp 23)] #[25]))) hF hS (by kernel_rfl) (fun W hW => x_len Try.underlying25 rfl) (by kernel_rfl) (by decide) fun a hF => ?_
      refine d_end (by kernel_rfl) (hK14 _ _ ?_)
      refine wp_block ?_
      refine wp_up c.kids.length (fun i a w => ∃ n2 : Nat, n2 = n + 1 + szs (c.kids.take i) ∧ (∀ k ∈ c.kids.take i, d + 1 + (k.dep : Int) ≤ 2001) ∧ n2 ≤ 20001 ∧ Blk w g 3 [.int .i64 (n2 : Int)] ∧ Below w0.heap.size w0 w ∧ Ktw g g w1 w ∧ Fs 46 a [(1, .int .i64 d), (2, .pointer (some ⟨g, 0, none⟩)), (23, .slice av c.kids.length cv), (24, .int .i64 (c.kids.length : Int)), (25, .int .i64 (i : Int))]) ⟨n + 1, by simp [szs], (fun k h => by simp at h), by omega, mg, hB, hK, hF.sub _ rfl⟩ ?_
      repeat clear hF
      clear hB hK mg
      rintro i a w hi ⟨n2, hn2, hdk, hn3, mg, hB, hK, hF⟩ K' hK'
      have sB := hB.size
      have sK := hK.size
      have hgl := mg.lt
      refine wp_rs fun K15 hK15 => ?_
      refine s_val hF (x_lss (b := decide (i < c.kids.length)) (decide_eq_decide.2 (by omega)) rfl rfl) (by decide) fun a hF => ?_
      refine s_end (hK15 _ _ ?_)
      refine wp_seq_k fun K16 hK16 => ?_
      refine wp_iff hF rfl (fun hc26 => ?_) (fun hc26 => ?_)
      · obtain ⟨b9, off9, c9, y, kd, hve, hyk, hry, hAb, hbl, hrow⟩ := hkid.row (i := i) (by omega)
        cases hve
        have hks := CT.kid_size hyk
        have hsz := szs_at hyk
        have hdp2 := kd.dep_pos
        have hsp := kd.size_pos
        refine wp_skip (hK16 _ _ ?_)
        refine wp_seq_k fun K17 hK17 => ?_
        refine wp_block ?_
        refine wp_rs fun K18 hK18 => ?_
        refine s_val hF (x_ixa rfl rfl (m_ixsK i Try.underlying25 el25.size rfl (by omega))) (by decide) fun a hF => ?_
        refine s_val hF (x_ldA wide27 (hrow _ (hB.block _ hbl)) rfl rfl) (by decide) fun a hF => ?_
        refine s_alloc hF (by decide) zero27 fun w12 b8 a eb8 m8 B13 zb8 hF => ?_
        have sB13 := B13.size
        have hB := hB.trans (B13.mono hB.size)
        have hK := hK.below B13
        have mg := mg.old B13
        refine s_putW hF rfl rfl (size_wide wide27) m8 rfl hry.one fun w16 m8 o17 => ?_
        have so17 := o17.size
        have hB := hB.trans (o17.below (by omega))
        have hK := hK.only o17 (by omega)
        have mg := mg.only o17 (by omega)
        refine s_end (hK18 _ _ ?_)
        rcases (show 20000 < (n2 : Int) ∨ ¬ 20000 < (n2 : Int) by omega) with hw | hw
        · skip
          refine wp_rs fun K20 hK20 => ?_
          refine s_val hF (x_move rfl) (by decide) fun a hF => ?_
          refine s_val hF (x_nil rfl) (by decide) fun a hF => ?_
          refine s_val hF (x_load rfl (m_load flat3 (mg.cell (j := 0) rfl))) (by decide) fun a hF => ?_
          refine s_val hF (x_gtr (b := true) (decide_eq_true (by omega)) rfl rfl) (by decide) fun a hF => ?_
          refine s_val hF (x_move rfl) (by decide) fun a hF => ?_
          refine s_grdn 33 hF rfl rfl (by decide) fun a hF => ?_
          refine s_grdn 33 hF rfl rfl (by decide) fun a hF => ?_
          refine s_grdn 33 hF rfl rfl (by decide) fun a hF => ?_
          refine s_grdn 33 hF rfl rfl (by decide) fun a hF => ?_
          refine s_grdn 33 hF rfl rfl (by decide) fun a hF => ?_
          refine s_grdn 33 hF rfl rfl (by decide) fun a hF => ?_
          refine s_val hF (x_pick (b := true) rfl rfl) (by decide) fun a hF => ?_
          refine s_end (hK20 _ _ ?_)
          refine wp_if hF rfl ?_
          refine wp_rs fun K21 hK21 => ?_
          refine s_val hF (x_assign rfl) (by decide) fun a hF => ?_
          refine s_end (hK21 _ _ ?_)
          refine wp_ret (inb_ret (then_ret (then_ret (inb_ret (then_ret (res_slot hF rfl rfl ⟨_, rfl, ⟨false, n2, rfl, mg, ⟨hn3, (fun h => absurd h (by decide)), fun _ h => by omega⟩⟩, hK⟩))))))
        · skip
          refine wp_rs fun K22 hK22 => ?_
          refine s_val hF (x_move rfl) (by decide) fun a hF => ?_
          refine s_val hF (x_nil rfl) (by decide) fun a hF => ?_
          refine s_val hF (x_load rfl (m_load flat3 (mg.cell (j := 0) rfl))) (by decide) fun a hF => ?_
          refine s_val hF (x_gtr (b := false) (decide_eq_false (by omega)) rfl rfl) (by decide) fun a hF => ?_
          refine s_val hF (x_move rfl) (by decide) fun a hF => ?_
          refine s_grd 33 hF rfl rfl rfl ?_
          refine s_val hF (x_ldW wide27 m8 rfl rfl) (by decide) fun a hF => ?_
          refine s_grd 33 hF rfl rfl rfl ?_
          refine s_val hF (x_move rfl) (by decide) fun a hF => ?_
          refine s_grd 33 hF rfl rfl rfl ?_
          refine s_val hF (x_add (by omega) (by omega) rfl rfl) (by decide) fun a hF => ?_
          refine s_grd 33 hF rfl rfl rfl ?_
          refine s_val hF (x_move rfl) (by decide) fun a hF => ?_
          refine s_grd 33 hF rfl rfl rfl ?_
          refine s_call (R := fun u w' => (∃ b m, u = .bool b ∧ Blk w' g 3 [.int .i64 ((m : Nat) : Int)] ∧ cntR kd (d + 1) n2 b m) ∧ Ktw g g w16 w') hF [_, _, _] (enters_of Try.func55 (by kernel_rfl) rfl) rfl (by decide) (ih kd y (by omega) hry (d + 1) n2 w16 (by omega) (by omega) (by omega) hB mg) ?_
          rintro _ w18 a ⟨⟨b38, q8, rfl, mg, hc8⟩, k19⟩ hF
          have sk19 := k19.size
          have hB := k19.under hB (by omega)
          have hK := hK.trans k19 (by omega)
          have m8 := m8.k2 k19 (by omega)
          refine s_grd 33 hF rfl rfl rfl ?_
          refine s_val hF (x_not rfl) (by decide) fun a hF => ?_
          refine s_val hF (x_pick (b := false) rfl rfl) (by decide) fun a hF => ?_
          refine s_end (hK22 _ _ ?_)
          refine wp_ifb hF rfl (fun hc40 => ?_) (fun hc40 => ?_)
          · obtain rfl : b38 = false := by simpa using hc40
            refine wp_rs fun K23 hK23 => ?_
            refine s_val hF (x_assign rfl) (by decide) fun a hF => ?_
            refine s_end (hK23 _ _ ?_)
            refine wp_ret (inb_ret (then_ret (then_ret (inb_ret (then_ret (res_slot hF rfl rfl ⟨_, rfl, ⟨false, q8, rfl, mg, ⟨hc8.1, (fun h => absurd h (by decide)), fun _ h => hc8.2.2 rfl (by omega)⟩⟩, hK⟩))))))
          · obtain rfl : b38 = true := by simpa using hc40
            have hc9 := hc8.2.1 rfl
            have htk := take_snoc hyk
            refine wp_skip (hK17 _ _ ?_)
            refine wp_region_lit ?_
            refine s_val hF (x_addn (i + 1) (by omega) (by omega) rfl rfl) (by decide) fun a hF => ?_
            refine s_val hF (x_move rfl) (by decide) fun a hF => ?_
            refine s_end (hK' _ _ (by omega) ⟨q8, by omega, (fun k hk => by rw [htk] at hk; rcases List.mem_append.1 hk with hk | hk; (· exact hdk k hk); (· rw [List.mem_singleton.1 hk]; omega)), hc8.1, mg, hB, hK, hF.sub _ rfl⟩)
      · obtain rfl : i = c.kids.length := by omega
        rw [List.take_length] at hn2 hdk
        have hd9 := c.dep_top (2000 - d) (by omega) (fun k hk => by have := hdk k hk; omega)
        refine wp_exit (hK13 _ _ ?_)
        refine wp_rs fun K24 hK24 => ?_
        refine s_val hF (x_move rfl) (by decide) fun a hF => ?_
        refine s_val hF (x_nil rfl) (by decide) fun a hF => ?_
        refine s_val hF (x_load rfl (m_load flat3 (mg.cell (j := 0) rfl))) (by decide) fun a hF => ?_
        refine s_val hF (x_leq rfl rfl rfl) (by decide) fun a hF => ?_
        refine s_val hF (x_assign rfl) (by decide) fun a hF => ?_
        refine s_end (hK24 _ _ ?_)
        refine wp_ret (res_slot hF rfl rfl ⟨_, rfl, ⟨_, n2, rfl, mg, ⟨hn3, (fun h => ⟨by omega, by omega, .inl (by have := of_decide_eq_true h; omega)⟩), fun h h2 => by have := of_decide_eq_false h; omega⟩⟩, hK⟩)

set_option maxRecDepth 100000 in
set_option maxHeartbeats 400000 in
theorem TooGreat14 (c : CT) (x : C8) (w0 : World) (hx : RC w0 (fun k => k < w0.heap.size) c x) : Calls Try.prog 14 #[tv x] w0 fun e w' => e = .returned (.bool (decide (¬ c.ok))) ∧ Below w0.heap.size w0 w' := by
  have hB := Below.refl w0.heap.size w0
  have sB := hB.size
  refine calls_fs 7 [(0, tv x)] Try.func14 rfl rfl rfl rfl rfl fun a hF => ?_
  refine wp_rs fun K1 hK1 => ?_
  refine s_box (tc x) hF (by decide) rfl rfl fun w2 b1 a eb1 m1 B3 zb1 hF => ?_
  have sB3 := B3.size
  have hB := hB.trans (B3.mono hB.size)
  refine s_val hF (x_assign rfl) (by decide) fun a hF => ?_
  refine s_end (hK1 _ _ ?_)
  refine wp_rs fun K2 hK2 => ?_
  refine s_alloc1 hF (by decide) zero3 rfl fun w4 b3 a eb3 m3 B5 zb3 hF => ?_
  have sB5 := B5.size
  have hB := hB.trans (B5.mono hB.size)
  have m1 := m1.old B5
  refine s_put hF rfl rfl flat3 m3 (by first | (simp; done) | (simp [tc, lc]; done) | decide) rfl fun w6 m3 o7 => ?_
  have so7 := o7.size
  have hB := hB.trans (o7.below (by omega))
  have m1 := m1.only o7 (by omega)
  refine s_end (hK2 _ _ ?_)
  refine wp_rs fun K3 hK3 => ?_
  refine s_val hF (x_ldW wide27 m1 rfl rfl) (by decide) fun a hF => ?_
  refine s_call (R := fun u w' => (∃ b m, u = .bool b ∧ Blk w' b3 3 [.int .i64 ((m : Nat) : Int)] ∧ cntR c 1 0 b m) ∧ Ktw b3 b3 w6 w') hF [_, _, _] (enters_of Try.func55 (by kernel_rfl) rfl) rfl (by decide) (count55 w0 b3 (by omega) (c.size + 1) c x (by omega) hx 1 0 w6 (by decide) (by decide) (by decide) hB m3) ?_
  rintro _ w8 a ⟨⟨b8, m8, rfl, m3, hc8⟩, k9⟩ hF
  have sk9 := k9.size
  have hB := k9.under hB (by omega)
  have m1 := m1.k2 k9 (by omega)
  have hbo : b8 = decide c.ok := by
    have hsp := c.size_pos
    cases b8
    · exact (decide_eq_false fun h => hc8.2.2 rfl ⟨by have := h.1; omega, by have := h.2; omega⟩).symm
    · have h := hc8.2.1 rfl
      exact (decide_eq_true (show c.ok from ⟨by omega, by omega⟩)).symm
  refine s_val hF (x_not rfl) (by decide) fun a hF => ?_
  refine s_val hF (x_assign rfl) (by decide) fun a hF => ?_
  refine s_end (hK3 _ _ ?_)
  refine wp_ret (res_slot hF rfl rfl ⟨by rw [hbo]; simp, hB⟩)
end Go.Proofs.Ytgpciphjhnabcaa
