/- The reference's count, TooGreat. -/
import Derived.Test.YtaclncmkdpjnlaaTerm17
import Derived.Test.YtaclncmkdpjnlaaLev5
namespace Go.Proofs.Ytaclncmkdpjnlaa
open Go.RowKit Go.Shelf
set_option linter.unusedVariables false
set_option linter.unusedSimpArgs false

def szs (ks : List CT) : Nat := (ks.map CT.size).sum
theorem szs_at {ks : List CT} {k : CT} {i : Nat} (h : ks[i]? = some k) : szs (ks.take (i + 1)) = szs (ks.take i) + k.size ∧ szs (ks.take (i + 1)) ≤ szs ks := by
  have e := split_at h
  have e2 : ks.take (i + 1) = ks.take i ++ [k] := by rw [List.take_add_one, h]; rfl
  refine ⟨by rw [e2]; simp [szs], ?_⟩
  rw [e2]
  conv => rhs; rw [e]
  simp [szs]
theorem CT.size_szs (c : CT) : c.size = szs c.kids + 1 := by cases c <;> simp [CT.size, CT.kids, szs] <;> omega
theorem CT.dep_top (c : CT) (M : Int) (hM : 0 ≤ M) (h : ∀ k ∈ c.kids, (k.dep : Int) ≤ M) : (c.dep : Int) ≤ M + 1 := by
  cases c with
  | two k a b m =>
    have h1 := h a (by simp [CT.kids])
    have h2 := h b (by simp [CT.kids])
    simp only [CT.dep]
    omega
  | lt a b c m =>
    have h1 := h a (by simp [CT.kids])
    have h2 := h b (by simp [CT.kids])
    have h3 := h c (by simp [CT.kids])
    simp only [CT.dep]
    omega
  | _ => simp only [CT.dep]; omega
/-- What count tells: that it goes, and how many there are then; that it doesn't. -/
def cntR (c : CT) (d : Int) (n : Nat) (b : Bool) (m : Nat) : Prop := m ≤ 20001 ∧ (b = true → m = n + c.size ∧ d + c.dep ≤ 2001 ∧ (m ≤ 20000 ∨ c.size = 1)) ∧ (b = false → ¬ (n + c.size ≤ 20000 ∧ d + c.dep ≤ 2001))

set_option maxRecDepth 100000 in
set_option maxHeartbeats 400000 in
theorem count55 (w0 : World) (g : Nat) (hg : w0.heap.size ≤ g) : ∀ (N : Nat) (c : CT) (x : C8), c.size < N → RC w0 (fun k => k < w0.heap.size) c x → ∀ (d : Int) (n : Nat) (w1 : World), 0 ≤ d → d ≤ 2001 → n ≤ 20000 → Below w0.heap.size w0 w1 → Blk w1 g 3 [.int .i64 (n : Int)] →
    Calls Try.prog 44 #[tv x, .int .i64 d, .pointer (some ⟨g, 0, none⟩)] w1 fun e w' => ∃ u, e = .returned u ∧ (∃ b m, u = .bool b ∧ Blk w' g 3 [.int .i64 ((m : Nat) : Int)] ∧ cntR c d n b m) ∧ Ktw g g w1 w' := by
  intro N
  induction N with
  | zero => intro s x h; omega
  | succ N ih =>
  intro c x hN hx d n w1 hd0 hd1 hn hB mg
  have hK := Ktw.refl g g w1
  have sB := hB.size
  have sK := hK.size
  have hgl := mg.lt
  have hrg := arT_rng c.kd
  have hss := c.size_szs
  have hdp := c.dep_pos
  have hk9 := CT.kids_arT hx
  have h3 := c.kids_le
  have hleaf := leaf70 c x _ w0 w1 hx
  obtain ⟨av, nv, cv, hts, hle9, hlen9, hcap, hkid⟩ := hx.kids
  obtain ⟨xk, xn, xs, xl, xls, xts⟩ := x
  simp only at hts
  subst hts
  have hkd : xk = c.kd := hx.kd
  have hone := hx.one
  refine calls_fs 46 [(0, tv ⟨xk, xn, xs, xl, xls, .slice av nv cv⟩), (1, .int .i64 d), (2, .pointer (some ⟨g, 0, none⟩))] Try.func44 rfl rfl rfl rfl rfl fun a hF => ?_
  refine wp_rs fun K1 hK1 => ?_
  refine s_box ([.int .i64 xk, .int .i64 xn, .string xs, .int .i64 xl.1, .int .i64 xl.2.1, xl.2.2, xls, .slice av nv cv]) hF (by decide) rfl rfl fun w2 b3 a eb3 m3 B3 zb3 hF => ?_
  have sB3 := B3.size
  have hB := hB.trans (B3.mono hB.size)
  have hK := hK.below B3
  have mg := mg.old B3
  refine s_val hF (x_assign rfl) (by decide) fun a hF => ?_
  refine s_end (hK1 _ _ ?_)
  refine wp_rs fun K2 hK2 => ?_
  refine s_val hF (x_move rfl) (by decide) fun a hF => ?_
  refine s_val hF (x_nil rfl) (by decide) fun a hF => ?_
  refine s_val hF (x_load rfl (m_load flat3 (mg.cell (j := 0) rfl))) (by decide) fun a hF => ?_
  refine s_val hF (x_addn (n + 1) (by omega) (by omega) rfl rfl) (by decide) fun a hF => ?_
  refine s_val hF (x_nil rfl) (by decide) fun a hF => ?_
  refine s_put hF rfl rfl flat3 mg (by first | (simp; done) | (simp [tc, lc]; done) | decide) rfl fun w4 mg o5 => ?_
  have so5 := o5.size
  have hB := hB.trans (o5.below (by omega))
  have hK := hK.only o5 (by omega)
  have m3 := m3.only o5 (by omega)
  refine s_end (hK2 _ _ ?_)
  refine wp_seq_k fun K3 hK3 => ?_
  rcases (show 2000 < d ∨ ¬ 2000 < d by omega) with hz | hz
  · skip
    refine wp_rs fun K5 hK5 => ?_
    refine s_val hF (x_move rfl) (by decide) fun a hF => ?_
    refine s_val hF (x_gtr (b := true) (decide_eq_true (by omega)) rfl rfl) (by decide) fun a hF => ?_
    refine s_end (hK5 _ _ ?_)
    refine wp_if hF rfl ?_
    refine wp_rs fun K6 hK6 => ?_
    refine s_val hF (x_assign rfl) (by decide) fun a hF => ?_
    refine s_end (hK6 _ _ ?_)
    refine wp_ret (then_ret (res_slot hF rfl rfl ⟨_, rfl, ⟨false, n + 1, rfl, mg, ⟨by omega, (fun h => absurd h (by decide)), fun _ h => by omega⟩⟩, hK⟩))
  · skip
    refine wp_rs fun K7 hK7 => ?_
    refine s_val hF (x_move rfl) (by decide) fun a hF => ?_
    refine s_val hF (x_gtr (b := false) (decide_eq_false (by omega)) rfl rfl) (by decide) fun a hF => ?_
    refine s_end (hK7 _ _ ?_)
    refine wp_if hF rfl ?_
    refine wp_skip (hK3 _ _ ?_)
    refine wp_seq_k fun K8 hK8 => ?_
    rcases (show ((arT c.kd < 0 ∨ (c.len : Int) < arT c.kd) ∧ c.kids.length = 0) ∨ (¬ (arT c.kd < 0 ∨ (c.len : Int) < arT c.kd) ∧ (c.kids.length : Int) = arT c.kd) by omega) with hy | hy
    · skip
      refine wp_rs fun K10 hK10 => ?_
      refine s_val hF (x_ldW wide27 m3 rfl rfl) (by decide) fun a hF => ?_
      refine s_callB [_] hF (enters_of Try.func59 (by kernel_rfl) rfl) rfl (by decide) ((leaf70 c ⟨xk, xn, xs, xl, xls, .slice av nv cv⟩ _ w0 w4 hx).mono fun e w' h => ⟨by rw [h.1, decide_eq_true hy.1], h.2⟩) fun w6 a B7 hF => ?_
      have sB7 := B7.size
      have hB := hB.trans (B7.mono hB.size)
      have hK := hK.below B7
      have mg := mg.old B7
      have m3 := m3.old B7
      refine s_end (hK10 _ _ ?_)
      refine wp_if hF rfl ?_
      refine wp_rs fun K11 hK11 => ?_
      refine s_val hF (x_assign rfl) (by decide) fun a hF => ?_
      refine s_end (hK11 _ _ ?_)
      have hk0 : c.kids = [] := List.eq_nil_of_length_eq_zero hy.2
      have hd9 := c.dep_top 0 (by omega) (by rw [hk0]; simp)
      rw [hk0] at hss
      have hs1 : c.size = 1 := by simpa [szs] using hss
      refine wp_ret (then_ret (res_slot hF rfl rfl ⟨_, rfl, ⟨true, n + 1, rfl, mg, ⟨by omega, fun _ => ⟨by omega, by omega, .inr hs1⟩, fun h => absurd h (by decide)⟩⟩, hK⟩))
    · skip
      refine wp_rs fun K12 hK12 => ?_
      refine s_val hF (x_ldW wide27 m3 rfl rfl) (by decide) fun a hF => ?_
      refine s_callB [_] hF (enters_of Try.func59 (by kernel_rfl) rfl) rfl (by decide) ((leaf70 c ⟨xk, xn, xs, xl, xls, .slice av nv cv⟩ _ w0 w4 hx).mono fun e w' h => ⟨by rw [h.1, decide_eq_false hy.1], h.2⟩) fun w8 a B9 hF => ?_
      have sB9 := B9.size
      have hB := hB.trans (B9.mono hB.size)
      have hK := hK.below B9
      have mg := mg.old B9
      have m3 := m3.old B9
      refine s_end (hK12 _ _ ?_)
      refine wp_if hF rfl ?_
      refine wp_skip (hK8 _ _ ?_)
      refine wp_seq_k fun K13 hK13 => ?_
      refine dk2_seq (w8.heap.size) (w8.heap.size) (ops := regOps Try.f44 6) (N := 8) (by kernel_rfl) wide_orders (by kernel_rfl) fun w10 hw10 B11 hS K14 hK14 => ?_
      have zw10 : w10.heap.size = w8.heap.size := by rw [hw10]
      have sB11 := B11.size
      have hB := hB.trans (B11.mono hB.size)
      have hK := hK.below B11
      have mg := mg.old B11
      have m3 := m3.old B11
      have mg_d := mg
      have m3_d := m3
      have hB_d := hB
      have hK_d := hK
      refine d_val 0 18 (op := (Go.Op.fieldAddr 27 (Go.Operand.tmp 3) 5)) hF hS (by kernel_rfl) (fun W hW => x_fa0 fa27_5 rfl) (by kernel_rfl) (by decide) fun a hF => ?_
      refine d_val 1 19 (op := (Go.Op.load 25 (Go.Operand.tmp 18))) hF hS (by kernel_rfl) (fun W hW => x_load rfl (m_load flat25 ((m3_d.k2 hW (by omega)).cell (j := 7) rfl))) (by kernel_rfl) (by decide) fun a hF => ?_
      refine d_val 2 20 (op := (Go.Op.fieldAddr 27 (Go.Operand.tmp 3) 0)) hF hS (by kernel_rfl) (fun W hW => x_fa0 fa27_0 rfl) (by kernel_rfl) (by decide) fun a hF => ?_
      refine d_val 3 21 (op := (Go.Op.load 3 (Go.Operand.tmp 20))) hF hS (by kernel_rfl) (fun W hW => x_load rfl (m_load flat3 ((m3_d.k2 hW (by omega)).cell (j := 0) rfl))) (by kernel_rfl) (by decide) fun a hF => ?_
      refine d_val 7 25 (op := (Go.Op.move (Go.Operand.const (Go.Value.int Go.IntKind.i64 0)))) hF hS (by kernel_rfl) (fun W hW => x_move rfl) (by kernel_rfl) (by decide) fun a hF => ?_
      refine d_one 4 (some 22) (Go.Op.call (Go.Call.mk (Go.Callee.value (Go.Operand.func 87)) #[(Go.Operand.tmp 21)] #[3])) (by kernel_rfl) (by kernel_rfl) fun ty pos af => ?_
      refine s_callS [_] hF (enters_of Try.func87 (by kernel_rfl) rfl) rfl (by decide) ((kids54 xk w10).mono fun e w' h => ⟨(by rw [h.1, hkd, ← hy.2] : e = .returned (.int .i64 (c.kids.length : Int))), h.2⟩) fun a hF => ?_
      refine s_end ⟨hS, ?_⟩
      refine d_val 5 23 (op := (Go.Op.slice 25 (Go.Operand.tmp 19) none (some (Go.Operand.tmp 22)) none)) hF hS (by kernel_rfl) (fun W hW => x_slice (vlo := none) (vhi := some _) (vmx := none) rfl rfl rfl rfl (m_sliceUK c.kids.length Try.underlying25 el25.size (by omega) (by omega))) (by kernel_rfl) (by decide) fun a hF => ?_
      refine d_val 6 24 (op := (Go.Op.call (Go.Call.mk (Go.Callee.builtin Go.Builtin.len) #[(Go.Operand.tmp 23)] #[25]))) hF hS (by kernel_rfl) (fun W hW => x_len Try.underlying25 rfl) (by kernel_rfl) (by decide) fun a hF => ?_
      refine d_end (by kernel_rfl) (hK14 _ _ ?_)
      refine wp_block ?_
      refine wp_up c.kids.length (fun i a w => ∃ n2 : Nat, n2 = n + 1 + szs (c.kids.take i) ∧ (∀ k ∈ c.kids.take i, d + 1 + (k.dep : Int) ≤ 2001) ∧ n2 ≤ 20001 ∧ Blk w g 3 [.int .i64 (n2 : Int)] ∧ Below w0.heap.size w0 w ∧ Ktw g g w1 w ∧ Fs 46 a [(1, .int .i64 d), (2, .pointer (some ⟨g, 0, none⟩)), (23, .slice av c.kids.length cv), (24, .int .i64 (c.kids.length : Int)), (25, .int .i64 (i : Int))]) ⟨n + 1, by simp [szs], (fun k h => by simp at h), by omega, mg, hB, hK, hF.sub _ rfl⟩ ?_
      repeat clear hF
      clear hB hK mg
      rintro i a w hi ⟨n2, hn2, hdk, hn3, mg, hB, hK, hF⟩ K' hK'
      have sB := hB.size
      have sK := hK.size
      have hgl := mg.lt
      refine wp_rs fun K15 hK15 => ?_
      refine s_val hF (x_lss (b := decide (i < c.kids.length)) (decide_eq_decide.2 (by omega)) rfl rfl) (by decide) fun a hF => ?_
      refine s_end (hK15 _ _ ?_)
      refine wp_seq_k fun K16 hK16 => ?_
      refine wp_iff hF rfl (fun hc26 => ?_) (fun hc26 => ?_)
      · obtain ⟨b9, off9, c9, y, kd, hve, hyk, hry, hAb, hbl, hrow⟩ := hkid.row (i := i) (by omega)
        cases hve
        have hks := CT.kid_size hyk
        have hsz := szs_at hyk
        have hdp2 := kd.dep_pos
        have hsp := kd.size_pos
        refine wp_skip (hK16 _ _ ?_)
        refine wp_seq_k fun K17 hK17 => ?_
        refine wp_block ?_
        refine wp_rs fun K18 hK18 => ?_
        refine s_val hF (x_ixa rfl rfl (m_ixsK i Try.underlying25 el25.size rfl (by omega))) (by decide) fun a hF => ?_
        refine s_val hF (x_ldA wide27 (hrow _ (hB.block _ hbl)) rfl rfl) (by decide) fun a hF => ?_
        refine s_alloc hF (by decide) zero27 fun w12 b8 a eb8 m8 B13 zb8 hF => ?_
        have sB13 := B13.size
        have hB := hB.trans (B13.mono hB.size)
        have hK := hK.below B13
        have mg := mg.old B13
        refine s_putW hF rfl rfl (size_wide wide27) m8 rfl hry.one fun w16 m8 o17 => ?_
        have so17 := o17.size
        have hB := hB.trans (o17.below (by omega))
        have hK := hK.only o17 (by omega)
        have mg := mg.only o17 (by omega)
        refine s_end (hK18 _ _ ?_)
        rcases (show 20000 < (n2 : Int) ∨ ¬ 20000 < (n2 : Int) by omega) with hw | hw
        · skip
          refine wp_rs fun K20 hK20 => ?_
          refine s_val hF (x_move rfl) (by decide) fun a hF => ?_
          refine s_val hF (x_nil rfl) (by decide) fun a hF => ?_
          refine s_val hF (x_load rfl (m_load flat3 (mg.cell (j := 0) rfl))) (by decide) fun a hF => ?_
          refine s_val hF (x_gtr (b := true) (decide_eq_true (by omega)) rfl rfl) (by decide) fun a hF => ?_
          refine s_val hF (x_move rfl) (by decide) fun a hF => ?_
          refine s_grdn 33 hF rfl rfl (by decide) fun a hF => ?_
          refine s_grdn 33 hF rfl rfl (by decide) fun a hF => ?_
          refine s_grdn 33 hF rfl rfl (by decide) fun a hF => ?_
          refine s_grdn 33 hF rfl rfl (by decide) fun a hF => ?_
          refine s_grdn 33 hF rfl rfl (by decide) fun a hF => ?_
          refine s_grdn 33 hF rfl rfl (by decide) fun a hF => ?_
          refine s_val hF (x_pick (b := true) rfl rfl) (by decide) fun a hF => ?_
          refine s_end (hK20 _ _ ?_)
          refine wp_if hF rfl ?_
          refine wp_rs fun K21 hK21 => ?_
          refine s_val hF (x_assign rfl) (by decide) fun a hF => ?_
          refine s_end (hK21 _ _ ?_)
          refine wp_ret (inb_ret (then_ret (then_ret (inb_ret (then_ret (res_slot hF rfl rfl ⟨_, rfl, ⟨false, n2, rfl, mg, ⟨hn3, (fun h => absurd h (by decide)), fun _ h => by omega⟩⟩, hK⟩))))))
        · skip
          refine wp_rs fun K22 hK22 => ?_
          refine s_val hF (x_move rfl) (by decide) fun a hF => ?_
          refine s_val hF (x_nil rfl) (by decide) fun a hF => ?_
          refine s_val hF (x_load rfl (m_load flat3 (mg.cell (j := 0) rfl))) (by decide) fun a hF => ?_
          refine s_val hF (x_gtr (b := false) (decide_eq_false (by omega)) rfl rfl) (by decide) fun a hF => ?_
          refine s_val hF (x_move rfl) (by decide) fun a hF => ?_
          refine s_grd 33 hF rfl rfl rfl ?_
          refine s_val hF (x_ldW wide27 m8 rfl rfl) (by decide) fun a hF => ?_
          refine s_grd 33 hF rfl rfl rfl ?_
          refine s_val hF (x_move rfl) (by decide) fun a hF => ?_
          refine s_grd 33 hF rfl rfl rfl ?_
          refine s_val hF (x_add (by omega) (by omega) rfl rfl) (by decide) fun a hF => ?_
          refine s_grd 33 hF rfl rfl rfl ?_
          refine s_val hF (x_move rfl) (by decide) fun a hF => ?_
          refine s_grd 33 hF rfl rfl rfl ?_
          refine s_call (R := fun u w' => (∃ b m, u = .bool b ∧ Blk w' g 3 [.int .i64 ((m : Nat) : Int)] ∧ cntR kd (d + 1) n2 b m) ∧ Ktw g g w16 w') hF [_, _, _] (enters_of Try.func44 (by kernel_rfl) rfl) rfl (by decide) (ih kd y (by omega) hry (d + 1) n2 w16 (by omega) (by omega) (by omega) hB mg) ?_
          rintro _ w18 a ⟨⟨b38, q8, rfl, mg, hc8⟩, k19⟩ hF
          have sk19 := k19.size
          have hB := k19.under hB (by omega)
          have hK := hK.trans k19 (by omega)
          have m8 := m8.k2 k19 (by omega)
          refine s_grd 33 hF rfl rfl rfl ?_
          refine s_val hF (x_not rfl) (by decide) fun a hF => ?_
          refine s_val hF (x_pick (b := false) rfl rfl) (by decide) fun a hF => ?_
          refine s_end (hK22 _ _ ?_)
          refine wp_ifb hF rfl (fun hc40 => ?_) (fun hc40 => ?_)
          · obtain rfl : b38 = false := by simpa using hc40
            refine wp_rs fun K23 hK23 => ?_
            refine s_val hF (x_assign rfl) (by decide) fun a hF => ?_
            refine s_end (hK23 _ _ ?_)
            refine wp_ret (inb_ret (then_ret (then_ret (inb_ret (then_ret (res_slot hF rfl rfl ⟨_, rfl, ⟨false, q8, rfl, mg, ⟨hc8.1, (fun h => absurd h (by decide)), fun _ h => hc8.2.2 rfl (by omega)⟩⟩, hK⟩))))))
          · obtain rfl : b38 = true := by simpa using hc40
            have hc9 := hc8.2.1 rfl
            have htk := take_snoc hyk
            refine wp_skip (hK17 _ _ ?_)
            refine wp_region_lit ?_
            refine s_val hF (x_addn (i + 1) (by omega) (by omega) rfl rfl) (by decide) fun a hF => ?_
            refine s_val hF (x_move rfl) (by decide) fun a hF => ?_
            refine s_end (hK' _ _ (by omega) ⟨q8, by omega, (fun k hk => by rw [htk] at hk; rcases List.mem_append.1 hk with hk | hk; (· exact hdk k hk); (· rw [List.mem_singleton.1 hk]; omega)), hc8.1, mg, hB, hK, hF.sub _ rfl⟩)
      · obtain rfl : i = c.kids.length := by omega
        rw [List.take_length] at hn2 hdk
        have hd9 := c.dep_top (2000 - d) (by omega) (fun k hk => by have := hdk k hk; omega)
        refine wp_exit (hK13 _ _ ?_)
        refine wp_rs fun K24 hK24 => ?_
        refine s_val hF (x_move rfl) (by decide) fun a hF => ?_
        refine s_val hF (x_nil rfl) (by decide) fun a hF => ?_
        refine s_val hF (x_load rfl (m_load flat3 (mg.cell (j := 0) rfl))) (by decide) fun a hF => ?_
        refine s_val hF (x_leq rfl rfl rfl) (by decide) fun a hF => ?_
        refine s_val hF (x_assign rfl) (by decide) fun a hF => ?_
        refine s_end (hK24 _ _ ?_)
        refine wp_ret (res_slot hF rfl rfl ⟨_, rfl, ⟨_, n2, rfl, mg, ⟨hn3, (fun h => ⟨by omega, by omega, .inl (by have := of_decide_eq_true h; omega)⟩), fun h h2 => by have := of_decide_eq_false h; omega⟩⟩, hK⟩)

end Go.Proofs.Ytaclncmkdpjnlaa

namespace Go.Proofs.Ytaclncmkdpjnlaa
open Go.RowKit Go.Shelf
set_option linter.unusedVariables false
set_option linter.unusedSimpArgs false

def dps (ks : List CT) : Nat := ks.foldl (fun m k => max m k.dep) 0
set_option maxRecDepth 100000 in
set_option maxHeartbeats 400000 in
theorem Size26 (c : CT) (x : C8) (w0 : World) (hx : RC w0 (fun k => k < w0.heap.size) c x) : Calls Try.prog 22 #[tv x] w0 fun e w' => e = .returned (.int .i64 (c.mN : Int)) ∧ Below w0.heap.size w0 w' := by
  have hB := Below.refl w0.heap.size w0
  have sB := hB.size
  refine calls_fs 8 [(0, tv x)] Try.func22 rfl rfl rfl rfl rfl fun a hF => ?_
  refine wp_rs fun K1 hK1 => ?_
  refine s_box (tc x) hF (by decide) rfl rfl fun w2 b1 a eb1 m1 B3 zb1 hF => ?_
  have sB3 := B3.size
  have hB := hB.trans (B3.mono hB.size)
  refine s_val hF (x_assign rfl) (by decide) fun a hF => ?_
  refine s_end (hK1 _ _ ?_)
  refine wp_rs fun K2 hK2 => ?_
  refine s_alloc1 hF (by decide) zero3 rfl fun w4 b3 a eb3 m3 B5 zb3 hF => ?_
  have sB5 := B5.size
  have hB := hB.trans (B5.mono hB.size)
  have m1 := m1.old B5
  refine s_put hF rfl rfl flat3 m3 (by first | (simp; done) | (simp [tc, lc]; done) | decide) rfl fun w6 m3 o7 => ?_
  have so7 := o7.size
  have hB := hB.trans (o7.below (by omega))
  have m1 := m1.only o7 (by omega)
  refine s_end (hK2 _ _ ?_)
  refine wp_seq_k fun K3 hK3 => ?_
  refine wp_rs fun K4 hK4 => ?_
  refine s_val hF (x_ldW wide27 m1 rfl rfl) (by decide) fun a hF => ?_
  refine s_call (R := fun u w' => (∃ b m, u = .bool b ∧ Blk w' b3 3 [.int .i64 ((m : Nat) : Int)] ∧ cntR c 1 0 b m) ∧ Ktw b3 b3 w6 w') hF [_, _, _] (enters_of Try.func44 (by kernel_rfl) rfl) rfl (by decide) (count55 w0 b3 (by omega) (c.size + 1) c x (by omega) hx 1 0 w6 (by decide) (by decide) (by decide) hB m3) ?_
  rintro _ w8 a ⟨⟨b8, m8, rfl, m3, hc8⟩, k9⟩ hF
  have sk9 := k9.size
  have hB := k9.under hB (by omega)
  have m1 := m1.k2 k9 (by omega)
  have hbo : b8 = decide c.ok := by
    have hsp := c.size_pos
    cases b8
    · exact (decide_eq_false fun h => hc8.2.2 rfl ⟨by have := h.1; omega, by have := h.2; omega⟩).symm
    · have h := hc8.2.1 rfl
      exact (decide_eq_true (show c.ok from ⟨by omega, by omega⟩)).symm
  refine s_val hF (x_not rfl) (by decide) fun a hF => ?_
  refine s_end (hK4 _ _ ?_)
  refine wp_ifb hF rfl (fun hc6 => ?_) (fun hc6 => ?_)
  · obtain rfl : b8 = false := by simpa using hc6
    refine wp_rs fun K5 hK5 => ?_
    refine s_val hF (x_assign rfl) (by decide) fun a hF => ?_
    refine s_end (hK5 _ _ ?_)
    have hz : c.mN = 0 := if_neg (of_decide_eq_false hbo.symm)
    refine wp_ret (then_ret ((res_slot hF rfl rfl ⟨by rw [hz]; rfl, hB⟩)))
  · obtain rfl : b8 = true := by simpa using hc6
    refine wp_skip (hK3 _ _ ?_)
    refine wp_rs fun K6 hK6 => ?_
    refine s_val hF (x_load rfl (m_load flat3 (m3.cell (j := 0) rfl))) (by decide) fun a hF => ?_
    refine s_val hF (x_assign rfl) (by decide) fun a hF => ?_
    refine s_end (hK6 _ _ ?_)
    have hz : c.mN = m8 := by rw [CT.mN, if_pos (of_decide_eq_true hbo.symm)]; have := (hc8.2.1 rfl).1; omega
    refine wp_ret (res_slot hF rfl rfl ⟨by rw [hz], hB⟩)

end Go.Proofs.Ytaclncmkdpjnlaa

namespace Go.Proofs.Ytaclncmkdpjnlaa
open Go.RowKit Go.Shelf
set_option linter.unusedVariables false
set_option linter.unusedSimpArgs false

def CT.leaves : CT → Int → List (CT × Int)
  | .two k a b m, d => a.leaves (d + (CT.two k a b m).bnd 0) ++ b.leaves (d + (CT.two k a b m).bnd 1)
  | .lt a b c m, d => a.leaves (d + (CT.lt a b c m).bnd 0) ++ (b.leaves (d + (CT.lt a b c m).bnd 1) ++ c.leaves (d + (CT.lt a b c m).bnd 2))
  | c, d => [(c, d)]
/-- The leaves of the first i kids. -/
def CT.lvK (c : CT) (d : Int) : Nat → List (CT × Int)
  | 0 => []
  | i + 1 => c.lvK d i ++ (match c.kids[i]? with | some k => k.leaves (d + c.bnd i) | none => [])
def enc9 (e : C8 × Int) : List Value := tc e.1 ++ [.int .i64 e.2]
/-- The elements are these leaves, which lie where w0's own blocks lie. -/
def LTw (w0 : World) (es : List (C8 × Int)) (ls : List (CT × Int)) : Prop := es.length = ls.length ∧ ∀ (j : Nat) e l, es[j]? = some e → ls[j]? = some l → RC w0 (fun k => k < w0.heap.size) l.1 e.1 ∧ e.2 = l.2
theorem LTw.nil (w0 : World) : LTw w0 [] [] := ⟨rfl, fun j e l h => by simp at h⟩
theorem LTw.snoc {w0 : World} {es : List (C8 × Int)} {ls : List (CT × Int)} {c : CT} {x : C8} {d : Int} (h : LTw w0 es ls) (hx : RC w0 (fun k => k < w0.heap.size) c x) : LTw w0 (es ++ [(x, d)]) (ls ++ [(c, d)]) := by
  refine ⟨by simp [h.1], fun j e l e1 e2 => ?_⟩
  rcases Nat.lt_or_ge j es.length with hj | hj
  · rw [List.getElem?_append_left hj] at e1
    rw [List.getElem?_append_left (by have := h.1; omega)] at e2
    exact h.2 j e l e1 e2
  · rw [List.getElem?_append_right hj] at e1
    rw [List.getElem?_append_right (by have := h.1; omega)] at e2
    have h0 : j - es.length = 0 := by have := (List.getElem?_eq_some_iff.1 e1).1; simp at this; omega
    have h1 : j - ls.length = 0 := by have := h.1; omega
    rw [h0] at e1
    rw [h1] at e2
    simp at e1 e2
    subst e1 e2
    exact ⟨hx, rfl⟩
end Go.Proofs.Ytaclncmkdpjnlaa

namespace Go.Proofs.Ytaclncmkdpjnlaa
open Go.RowKit Go.Shelf
set_option linter.unusedVariables false
set_option linter.unusedSimpArgs false

def lstL (n : Int) (l : CT × Int) : Int := max n (match l.1 with | .var k _ => if l.2 ≤ k then min (k - l.2 + 1) 9223372036854775807 else 0 | _ => 0)
def isC (s : ByteArray) : CT → Bool
  | .cst t _ _ => decide (t = s)
  | _ => false
def CT.menR (c : CT) (s : ByteArray) : Bool := decide c.ok && (c.leaves 0).any (fun l => isC s l.1)

end Go.Proofs.Ytaclncmkdpjnlaa

namespace Go.Proofs.Ytaclncmkdpjnlaa
set_option linter.unusedVariables false
set_option linter.unusedSimpArgs false

/-- Lifting without an end: by b what is d or more. -/
def PT.sh (b : Int) : PT → Int → PT
  | .var n, d => .var (if d ≤ n then n + b else n)
  | .two k p q, d => .two k (p.sh b d) (q.sh b (d + if k = 3 ∨ k = 4 then 1 else 0))
  | .lt p q r, d => .lt (p.sh b d) (q.sh b d) (r.sh b (d + 1))
  | .sort o, _ => .sort o
  | .cst s os, _ => .cst s os
  | .odd k, _ => .odd k
def PT.pu (v : PT) : PT → Int → PT
  | .var n, d => if n = d then v.sh d 0 else .var (if d < n then n - 1 else n)
  | .two k p q, d => .two k (PT.pu v p d) (PT.pu v q (d + if k = 3 ∨ k = 4 then 1 else 0))
  | .lt p q r, d => .lt (PT.pu v p d) (PT.pu v q d) (PT.pu v r (d + 1))
  | .sort o, _ => .sort o
  | .cst s os, _ => .cst s os
  | .odd k, _ => .odd k
theorem bnd01 (k : Int) : 0 ≤ (if k = 3 ∨ k = 4 then (1 : Int) else 0) ∧ (if k = 3 ∨ k = 4 then (1 : Int) else 0) ≤ 1 := by split <;> omega
theorem sh_sh (b c : Int) : ∀ (v : PT) (e : Int), 0 ≤ c → (v.sh c e).sh b (e + c) = v.sh (c + b) e
  | .var n, e, hc => by
    simp only [PT.sh]
    by_cases h : e ≤ n
    · rw [if_pos h, if_pos h, if_pos (by omega)]; congr 1; omega
    · rw [if_neg h, if_neg h, if_neg (by omega)]
  | .two k p q, e, hc => by
    simp only [PT.sh]
    rw [sh_sh b c p e hc, show e + c + (if k = 3 ∨ k = 4 then (1 : Int) else 0) = (e + if k = 3 ∨ k = 4 then 1 else 0) + c by omega, sh_sh b c q _ hc]
  | .lt p q r, e, hc => by
    simp only [PT.sh]
    rw [sh_sh b c p e hc, sh_sh b c q e hc, show e + c + 1 = (e + 1) + c by omega, sh_sh b c r _ hc]
  | .sort o, _, _ => rfl
  | .cst s os, _, _ => rfl
  | .odd k, _, _ => rfl
theorem pu_sh_in (v : PT) (b : Int) (hb : 0 ≤ b) : ∀ (u : PT) (c : Int), 0 ≤ c → PT.pu v (u.sh b c) (b + c) = (PT.pu v u c).sh b c
  | .var n, c, hc => by
    simp only [PT.sh, PT.pu]
    by_cases h : n = c
    · subst h
      rw [if_pos (Int.le_refl _), if_pos (by omega), if_pos rfl]
      have := sh_sh b n v 0 hc
      rw [Int.zero_add] at this
      rw [this, Int.add_comm b n]
    · rw [if_neg h]
      by_cases h1 : c ≤ n
      · rw [if_pos h1, if_neg (by omega), if_pos (by omega), if_pos (by omega)]
        simp only [PT.sh]
        rw [if_pos (by omega)]; congr 1; omega
      · rw [if_neg h1, if_neg (by omega), if_neg (by omega), if_neg (by omega)]
        simp only [PT.sh]
        rw [if_neg h1]
  | .two k p q, c, hc => by
    have := bnd01 k
    simp only [PT.sh, PT.pu]
    rw [pu_sh_in v b hb p c hc, Int.add_assoc, pu_sh_in v b hb q _ (by omega)]
  | .lt p q r, c, hc => by
    simp only [PT.sh, PT.pu]
    rw [pu_sh_in v b hb p c hc, pu_sh_in v b hb q c hc, Int.add_assoc, pu_sh_in v b hb r _ (by omega)]
  | .sort o, _, _ => rfl
  | .cst s os, _, _ => rfl
  | .odd k, _, _ => rfl
theorem pu_sh_off (w : PT) (d : Int) (hd : 0 ≤ d) : ∀ (v : PT) (e : Int), PT.pu w (v.sh (d + 1) e) (e + d) = v.sh d e
  | .var n, e => by
    simp only [PT.sh, PT.pu]
    by_cases h : e ≤ n
    · rw [if_pos h, if_pos h, if_neg (by omega), if_pos (by omega)]; congr 1; omega
    · rw [if_neg h, if_neg h, if_neg (by omega), if_neg (by omega)]
  | .two k p q, e => by
    simp only [PT.sh, PT.pu]
    rw [pu_sh_off w d hd p e, show e + d + (if k = 3 ∨ k = 4 then (1 : Int) else 0) = (e + if k = 3 ∨ k = 4 then 1 else 0) + d by omega, pu_sh_off w d hd q _]
  | .lt p q r, e => by
    simp only [PT.sh, PT.pu]
    rw [pu_sh_off w d hd p e, pu_sh_off w d hd q e, show e + d + 1 = (e + 1) + d by omega, pu_sh_off w d hd r _]
  | .sort o, _ => rfl
  | .cst s os, _ => rfl
  | .odd k, _ => rfl
/-- Put in one after the other, whichever first. -/
theorem pu_pu (u v : PT) : ∀ (t : PT) (d : Int), 0 ≤ d → PT.pu v (PT.pu u t d) d = PT.pu (PT.pu v u 0) (PT.pu v t (d + 1)) d
  | .var n, d, hd => by
    simp only [PT.pu]
    by_cases h : n = d
    · subst h
      rw [if_pos rfl, if_neg (by omega), if_neg (by omega)]
      have := pu_sh_in v n hd u 0 (by omega)
      rw [Int.add_zero] at this
      simp only [PT.pu]
      rw [if_pos trivial]
      exact this
    · rw [if_neg h]
      by_cases h1 : n = d + 1
      · subst h1
        rw [if_pos (by omega), if_pos rfl]
        have := pu_sh_off (PT.pu v u 0) d hd v 0
        rw [Int.zero_add] at this
        rw [this]
        simp only [PT.pu]
        rw [if_pos (by omega)]
      · rw [if_neg h1]
        by_cases h2 : d < n
        · rw [if_pos h2, if_pos (by omega)]
          simp only [PT.pu]
          rw [if_neg (show ¬ n - 1 = d by omega), if_neg (show ¬ n - 1 = d by omega)]
        · rw [if_neg h2, if_neg (by omega)]
          simp only [PT.pu]
          rw [if_neg (show ¬ n = d by omega), if_neg (show ¬ n = d by omega)]
  | .two k p q, d, hd => by
    have := bnd01 k
    simp only [PT.pu]
    rw [pu_pu u v p d hd, pu_pu u v q _ (by omega), show d + (if k = 3 ∨ k = 4 then (1 : Int) else 0) + 1 = d + 1 + (if k = 3 ∨ k = 4 then (1 : Int) else 0) by omega]
  | .lt p q r, d, hd => by
    simp only [PT.pu]
    rw [pu_pu u v p d hd, pu_pu u v q d hd, pu_pu u v r _ (by omega)]
  | .sort o, _, _ => rfl
  | .cst s os, _, _ => rfl
  | .odd k, _, _ => rfl
/-- Its variables are from 0 to M. -/
def PT.bd (M : Int) : PT → Prop
  | .var n => 0 ≤ n ∧ n ≤ M
  | .two _ p q => p.bd M ∧ q.bd M
  | .lt p q r => p.bd M ∧ q.bd M ∧ r.bd M
  | _ => True
theorem PT.bd.mono {M N : Int} (h : M ≤ N) : ∀ {p : PT}, p.bd M → p.bd N
  | .var n, h1 => ⟨h1.1, by have := h1.2; omega⟩
  | .two _ p q, h1 => ⟨PT.bd.mono h h1.1, PT.bd.mono h h1.2⟩
  | .lt p q r, h1 => ⟨PT.bd.mono h h1.1, PT.bd.mono h h1.2.1, PT.bd.mono h h1.2.2⟩
  | .sort _, _ => trivial
  | .cst _ _, _ => trivial
  | .odd _, _ => trivial
theorem lift_sh {M b : Int} (hM : M + b ≤ 9223372036854775807) (hb : 0 ≤ b) : ∀ (p : PT) (d : Int), p.bd M → 0 ≤ d → p.lift 0 b d = p.sh b d ∧ (p.sh b d).bd (M + b)
  | .var n, d, h, hd => by
    have h1 := h.1
    have h2 := h.2
    have e : liftN 0 b d n = if d ≤ n then n + b else n := by
      unfold liftN
      by_cases h3 : d ≤ n
      · rw [if_pos ⟨h3, by omega⟩, if_pos h3]; omega
      · rw [if_neg (fun h4 => h3 h4.1), if_neg h3]
    simp only [PT.lift, PT.sh, PT.bd]
    rw [e]
    refine ⟨rfl, ?_⟩
    split <;> omega
  | .two k p q, d, h, hd => by
    have := bnd01 k
    have h1 := lift_sh hM hb p d h.1 hd
    have h2 := lift_sh hM hb q (d + if k = 3 ∨ k = 4 then 1 else 0) h.2 (by omega)
    simp only [PT.lift, PT.sh, PT.bd]
    rw [h1.1, h2.1]
    exact ⟨rfl, h1.2, h2.2⟩
  | .lt p q r, d, h, hd => by
    have h1 := lift_sh hM hb p d h.1 hd
    have h2 := lift_sh hM hb q d h.2.1 hd
    have h3 := lift_sh hM hb r (d + 1) h.2.2 (by omega)
    simp only [PT.lift, PT.sh, PT.bd]
    rw [h1.1, h2.1, h3.1]
    exact ⟨rfl, h1.2, h2.2, h3.2⟩
  | .sort o, _, _, _ => ⟨rfl, trivial⟩
  | .cst s os, _, _, _ => ⟨rfl, trivial⟩
  | .odd k, _, _, _ => ⟨rfl, trivial⟩
theorem put_pu {M N : Int} {v : PT} (hv : v.bd N) (hN0 : 0 ≤ N) : ∀ (t : PT) (d : Int), t.bd M → 0 ≤ d → N + d + t.dep ≤ 9223372036854775807 → PT.put v t d = PT.pu v t d ∧ (PT.pu v t d).bd (max M (N + d + t.dep))
  | .var n, d, h, hd, hL => by
    have h1 := h.1
    have h2 := h.2
    simp only [PT.put, PT.pu]
    simp only [PT.dep] at hL ⊢
    by_cases h3 : n = d
    · rw [if_pos h3, if_pos h3]
      have := lift_sh (M := N) (b := d) (by omega) hd v 0 hv (by omega)
      exact ⟨this.1, this.2.mono (by omega)⟩
    · rw [if_neg h3, if_neg h3]
      refine ⟨rfl, ?_⟩
      simp only [PT.bd]
      split <;> omega
  | .two k p q, d, h, hd, hL => by
    have := bnd01 k
    simp only [PT.dep] at hL
    have h1 := put_pu hv hN0 p d h.1 hd (by omega)
    have h2 := put_pu hv hN0 q (d + if k = 3 ∨ k = 4 then 1 else 0) h.2 (by omega) (by omega)
    simp only [PT.put, PT.pu, PT.bd, PT.dep]
    rw [h1.1, h2.1]
    exact ⟨rfl, h1.2.mono (by omega), h2.2.mono (by omega)⟩
  | .lt p q r, d, h, hd, hL => by
    simp only [PT.dep] at hL
    have h1 := put_pu hv hN0 p d h.1 hd (by omega)
    have h2 := put_pu hv hN0 q d h.2.1 hd (by omega)
    have h3 := put_pu hv hN0 r (d + 1) h.2.2 (by omega) (by omega)
    simp only [PT.put, PT.pu, PT.bd, PT.dep]
    rw [h1.1, h2.1, h3.1]
    exact ⟨rfl, h1.2.mono (by omega), h2.2.mono (by omega), h3.2.mono (by omega)⟩
  | .sort o, _, _, _, _ => ⟨rfl, trivial⟩
  | .cst s os, _, _, _, _ => ⟨rfl, trivial⟩
  | .odd k, _, _, _, _ => ⟨rfl, trivial⟩

theorem PT.size_one (p : PT) : 1 ≤ p.size := by cases p <;> simp [PT.size]
theorem sh_size (b : Int) : ∀ (p : PT) (d : Int), (p.sh b d).size = p.size ∧ (p.sh b d).dep = p.dep
  | .var n, d => ⟨rfl, rfl⟩
  | .two k p q, d => by simp [PT.sh, PT.size, PT.dep, sh_size b p, sh_size b q]
  | .lt p q r, d => by simp [PT.sh, PT.size, PT.dep, sh_size b p, sh_size b q, sh_size b r]
  | .sort o, _ => ⟨rfl, rfl⟩
  | .cst s os, _ => ⟨rfl, rfl⟩
  | .odd k, _ => ⟨rfl, rfl⟩
theorem pu_size (v : PT) : ∀ (t : PT) (d : Int), (PT.pu v t d).size ≤ t.size * v.size ∧ (PT.pu v t d).dep ≤ t.dep + v.dep
  | .var n, d => by
    have h1 := v.size_one
    simp only [PT.pu]
    split
    · rw [(sh_size d v 0).1, (sh_size d v 0).2]; simp only [PT.size, PT.dep]; omega
    · simp only [PT.size, PT.dep]; omega
  | .two k p q, d => by
    have h1 := pu_size v p d
    have h2 := pu_size v q (d + if k = 3 ∨ k = 4 then 1 else 0)
    have h3 := v.size_one
    simp only [PT.pu, PT.size, PT.dep, Nat.add_mul]
    omega
  | .lt p q r, d => by
    have h1 := pu_size v p d
    have h2 := pu_size v q d
    have h3 := pu_size v r (d + 1)
    have h4 := v.size_one
    simp only [PT.pu, PT.size, PT.dep, Nat.add_mul]
    omega
  | .sort o, _ => by have := v.size_one; simp only [PT.pu, PT.size, PT.dep]; omega
  | .cst s os, _ => by have := v.size_one; simp only [PT.pu, PT.size, PT.dep]; omega
  | .odd k, _ => by have := v.size_one; simp only [PT.pu, PT.size, PT.dep]; omega
/-- How often variable d stands in it, as seen beneath d binders. -/
def PT.occ : PT → Int → Nat
  | .var n, d => if n = d then 1 else 0
  | .two k p q, d => p.occ d + q.occ (d + if k = 3 ∨ k = 4 then 1 else 0)
  | .lt p q r, d => p.occ d + q.occ d + r.occ (d + 1)
  | _, _ => 0
end Go.Proofs.Ytaclncmkdpjnlaa

namespace Go.Proofs.Ytaclncmkdpjnlaa
open Go.RowKit Go.Shelf
set_option linter.unusedVariables false
set_option linter.unusedSimpArgs false

def occL (l : CT × Int) : Nat := match l.1 with | .var n _ => if n = l.2 then 1 else 0 | _ => 0
end Go.Proofs.Ytaclncmkdpjnlaa

namespace Go.Proofs.Ytaclncmkdpjnlaa
open Go.RowKit Go.Shelf
set_option linter.unusedVariables false
set_option linter.unusedSimpArgs false

/-- What formOf tells. -/
def FF (w0 : World) (x : C3) (l : Lv) (w' : World) (c : Int) (vk : Value) (ks : List Int) : Prop := Rd w' vk 1 ks.length (ints ks) ∧ (¬ sndL l → c = 0 ∧ ks = []) ∧ ∀ s, RS w0 s x → s.good → c = nfC s ∧ ks = nfK s

set_option maxRecDepth 100000 in
set_option maxHeartbeats 1600000 in
theorem formOf38 (x : C3) (l : Lv) (w0 : World) (hL : RL w0 x l) : Calls Try.prog 108 #[lv x] w0 fun e w' => ∃ v, e = .returned v ∧ (∃ c vk ks, v = .tuple #[.agg [.int .i64 c, vk].toArray, .bool (decide (sndL l))] ∧ FF w0 x l w' c vk ks) ∧ Below w0.heap.size w0 w' := by
  have hB := Below.refl w0.heap.size w0
  have sB := hB.size
  refine calls_fs 13 [(0, lv x)] Try.func108 rfl rfl rfl rfl rfl fun a hF => ?_
  refine wp_rs fun K1 hK1 => ?_
  refine s_box (lc x) hF (by decide) rfl rfl fun w2 b1 a eb1 m1 B3 zb1 hF => ?_
  have sB3 := B3.size
  have hB := hB.trans (B3.mono hB.size)
  refine s_alloc hF (by decide) zero59 fun w4 b2 a eb2 m2 B5 zb2 hF => ?_
  have sB5 := B5.size
  have hB := hB.trans (B5.mono hB.size)
  have m1 := m1.old B5
  refine s_val hF (x_assign rfl) (by decide) fun a hF => ?_
  refine s_end (hK1 _ _ ?_)
  refine wp_seq_k fun K2 hK2 => ?_
  rcases (show decide (sndL l) = false ∨ decide (sndL l) = true by cases decide (sndL l) <;> simp) with hd | hd
  · have hn : ¬ sndL l := of_decide_eq_false hd
    refine wp_rs fun K4 hK4 => ?_
    refine s_val hF (x_ldW wide24 m1 rfl rfl) (by decide) fun a hF => ?_
    refine s_callB [_] hF (enters_of Try.func123 (by kernel_rfl) rfl) rfl (by decide) (isSound49 x l w4 (hL.old hB)) fun w6 a B7 hF => ?_
    have sB7 := B7.size
    have hB := hB.trans (B7.mono hB.size)
    have m1 := m1.old B7
    have m2 := m2.old B7
    rw [hd] at hF
    refine s_val hF (x_not rfl) (by decide) fun a hF => ?_
    refine s_end (hK4 _ _ ?_)
    refine wp_if hF rfl ?_
    refine wp_rs fun K5 hK5 => ?_
    refine s_val hF (x_build (vs := []) rfl (b59_ _)) (by decide) fun a hF => ?_
    refine s_putW hF rfl rfl (size_wide wide59) m2 rfl (one2 rfl) fun w8 m2 o9 => ?_
    have so9 := o9.size
    have hB := hB.trans (o9.below (by omega))
    have m1 := m1.only o9 (by omega)
    refine s_val hF (x_assign rfl) (by decide) fun a hF => ?_
    refine s_end (hK5 _ _ ?_)
    refine wp_ret (then_ret (res_ct hF rfl rfl m2 wide59 rfl ⟨_, rfl, ⟨_, _, [], by rw [hd], Rd.nil _ _, fun _ => ⟨rfl, rfl⟩, fun s hs hsg => absurd (rs_snd hL hs hsg) hn⟩, hB⟩))
  · have hn : sndL l := of_decide_eq_true hd
    obtain ⟨s, hs, hsg⟩ := sound_sl hL hn
    refine wp_rs fun K6 hK6 => ?_
    refine s_val hF (x_ldW wide24 m1 rfl rfl) (by decide) fun a hF => ?_
    refine s_callB [_] hF (enters_of Try.func123 (by kernel_rfl) rfl) rfl (by decide) (isSound49 x l w4 (hL.old hB)) fun w10 a B11 hF => ?_
    have sB11 := B11.size
    have hB := hB.trans (B11.mono hB.size)
    have m1 := m1.old B11
    have m2 := m2.old B11
    rw [hd] at hF
    refine s_val hF (x_not rfl) (by decide) fun a hF => ?_
    refine s_end (hK6 _ _ ?_)
    refine wp_if hF rfl ?_
    refine wp_skip (hK2 _ _ ?_)
    refine wp_rs fun K7 hK7 => ?_
    refine s_alloc hF (by decide) zero59 fun w12 b4 a eb4 m4 B13 zb4 hF => ?_
    have sB13 := B13.size
    have hB := hB.trans (B13.mono hB.size)
    have m1 := m1.old B13
    have m2 := m2.old B13
    refine s_end (hK7 _ _ ?_)
    refine wp_rs fun K8 hK8 => ?_
    refine s_val hF (x_ldW wide24 m1 rfl rfl) (by decide) fun a hF => ?_
    have hA : FA 122 w0.heap.size w12 b4 b4 (.slice none 0 0) 0 [] := FA.start m4 (by omega)
    refine s_call (R := fun u w' => (u = .tuple #[] ∧ ∃ v' o', FA 122 w0.heap.size w' b4 o' v' (rc s 0 0) (nfK s) ∧ (o' = b4 ∨ w12.heap.size ≤ o')) ∧ Ktw b4 b4 w12 w') hF [_, _, _] (enters_of Try.func124 (by kernel_rfl) rfl) rfl (by decide) (raise59 w0 b4 s x hs hsg.2.2 0 b4 _ 0 [] w12 (by decide) (by decide) (by decide) (by decide) (by decide) hB hA) ?_
    rintro _ w14 a ⟨⟨rfl, v2, o2, hA, ho2⟩, k15⟩ hF
    have sk15 := k15.size
    have hB := k15.under hB (by omega)
    have m1 := m1.k2 k15 (by omega)
    have m2 := m2.k2 k15 (by omega)
    have hlo := hA.lo
    refine s_end (hK8 _ _ ?_)
    refine wp_rs fun K9 hK9 => ?_
    refine s_call (R := fun u w' => (u = .tuple #[] ∧ FA 122 w0.heap.size w' b4 o2 v2 (setl (rc s 0 0) (nfK s)) (nfK s)) ∧ Ktw b4 o2 w14 w') hF [_] (enters_of Try.func111 (by kernel_rfl) rfl) rfl (by decide) (settle47 w0.heap.size b4 o2 v2 _ (nfK s) w14 hA (by have := nfK_len s hsg; omega) (nfK_lo s) (rc_bd (by decide) (by decide) (by decide) (by decide)).1) ?_
    rintro _ w16 a ⟨⟨rfl, hA⟩, k17⟩ hF
    have sk17 := k17.size
    have hB := k17.under hB (by omega)
    have m1 := m1.k2 k17 (by omega)
    have m2 := m2.k2 k17 (by omega)
    rw [nfC_setl] at hA
    have m4 := hA.blk
    have hlo2 := hA.lo
    have h1v := hA.rd.one
    refine s_end (hK9 _ _ ?_)
    refine wp_rs fun K10 hK10 => ?_
    refine s_val hF (x_ldW wide59 m4 rfl rfl) (by decide) fun a hF => ?_
    refine s_putW hF rfl rfl (size_wide wide59) m2 rfl (one2 h1v) fun w18 m2 o19 => ?_
    have so19 := o19.size
    have hB := hB.trans (o19.below (by omega))
    have m1 := m1.only o19 (by omega)
    have hA := hA.only o19 (by omega)
    have m4 := m4.only o19 (by omega)
    refine s_val hF (x_assign rfl) (by decide) fun a hF => ?_
    refine s_end (hK10 _ _ ?_)
    refine wp_ret (res_ct hF rfl rfl m2 wide59 rfl ⟨_, rfl, ⟨_, v2, nfK s, by rw [hd], hA.rd, fun h => absurd hn h, fun s' hs' _ => by rw [RS.inj hs hs']; exact ⟨rfl, rfl⟩⟩, hB⟩)

set_option maxRecDepth 100000 in
set_option maxHeartbeats 1600000 in
theorem same44 (c d : Int) (v u : Value) (ks ls : List Int) (w0 : World) (hl : ks.length ≤ 9223372036854775807) (hV : Rd w0 v 1 ks.length (ints ks)) (hU : Rd w0 u 1 ls.length (ints ls)) : Calls Try.prog 131 #[.agg [.int .i64 c, v].toArray, .agg [.int .i64 d, u].toArray] w0 fun e w' => e = .returned (.bool (decide (c = d ∧ ks = ls))) ∧ Below w0.heap.size w0 w' := by
  have hB := Below.refl w0.heap.size w0
  have sB := hB.size
  refine calls_fs 17 [(0, .agg [.int .i64 c, v].toArray), (1, .agg [.int .i64 d, u].toArray)] Try.func131 rfl rfl rfl rfl rfl fun a hF => ?_
  refine wp_rs fun K1 hK1 => ?_
  refine s_box ([.int .i64 c, v]) hF (by decide) rfl rfl fun w2 b2 a eb2 m2 B3 zb2 hF => ?_
  have sB3 := B3.size
  have hB := hB.trans (B3.mono hB.size)
  refine s_box ([.int .i64 d, u]) hF (by decide) rfl rfl fun w4 b3 a eb3 m3 B5 zb3 hF => ?_
  have sB5 := B5.size
  have hB := hB.trans (B5.mono hB.size)
  have m2 := m2.old B5
  refine s_val hF (x_assign rfl) (by decide) fun a hF => ?_
  refine s_end (hK1 _ _ ?_)
  rcases (show c ≠ d ∨ c = d by omega) with hq | hq
  · skip
    refine wp_rs fun K3 hK3 => ?_
    refine s_val hF (x_fa0 fa59_0 rfl) (by decide) fun a hF => ?_
    refine s_val hF (x_load rfl (m_load flat3 (m2.cell (j := 0) rfl))) (by decide) fun a hF => ?_
    refine s_val hF (x_fa0 fa59_0 rfl) (by decide) fun a hF => ?_
    refine s_val hF (x_load rfl (m_load flat3 (m3.cell (j := 0) rfl))) (by decide) fun a hF => ?_
    refine s_val hF (x_eql (b := false) (decide_eq_false (by omega)) rfl rfl) (by decide) fun a hF => ?_
    refine s_val hF (x_move rfl) (by decide) fun a hF => ?_
    refine s_grdn 10 hF rfl rfl (by decide) fun a hF => ?_
    refine s_grdn 10 hF rfl rfl (by decide) fun a hF => ?_
    refine s_grdn 10 hF rfl rfl (by decide) fun a hF => ?_
    refine s_grdn 10 hF rfl rfl (by decide) fun a hF => ?_
    refine s_grdn 10 hF rfl rfl (by decide) fun a hF => ?_
    refine s_val hF (x_pick (b := false) rfl rfl) (by decide) fun a hF => ?_
    refine s_val hF (x_assign rfl) (by decide) fun a hF => ?_
    refine s_end (hK3 _ _ ?_)
    refine wp_ret (res_slot hF rfl rfl ⟨by simp [hq], hB⟩)
  · skip
    refine wp_rs fun K4 hK4 => ?_
    refine s_val hF (x_fa0 fa59_0 rfl) (by decide) fun a hF => ?_
    refine s_val hF (x_load rfl (m_load flat3 (m2.cell (j := 0) rfl))) (by decide) fun a hF => ?_
    refine s_val hF (x_fa0 fa59_0 rfl) (by decide) fun a hF => ?_
    refine s_val hF (x_load rfl (m_load flat3 (m3.cell (j := 0) rfl))) (by decide) fun a hF => ?_
    refine s_val hF (x_eql (b := true) (decide_eq_true (by omega)) rfl rfl) (by decide) fun a hF => ?_
    refine s_val hF (x_move rfl) (by decide) fun a hF => ?_
    refine s_grd 10 hF rfl rfl rfl ?_
    refine s_val hF (x_fa0 fa59_1 rfl) (by decide) fun a hF => ?_
    refine s_grd 10 hF rfl rfl rfl ?_
    refine s_val hF (x_load rfl (m_load flat29 (m2.cell (j := 1) rfl))) (by decide) fun a hF => ?_
    refine s_grd 10 hF rfl rfl rfl ?_
    refine s_val hF (x_fa0 fa59_1 rfl) (by decide) fun a hF => ?_
    refine s_grd 10 hF rfl rfl rfl ?_
    refine s_val hF (x_load rfl (m_load flat29 (m3.cell (j := 1) rfl))) (by decide) fun a hF => ?_
    refine s_grd 10 hF rfl rfl rfl ?_
    refine s_callB [_, _] hF (enters_of Try.func139 (by kernel_rfl) rfl) rfl (by decide) (equal62 ks ls v u w4 hl (hV.below hB) (hU.below hB)) fun w6 a B7 hF => ?_
    have sB7 := B7.size
    have hB := hB.trans (B7.mono hB.size)
    have m2 := m2.old B7
    have m3 := m3.old B7
    refine s_val hF (x_pick (b := true) rfl rfl) (by decide) fun a hF => ?_
    refine s_val hF (x_assign rfl) (by decide) fun a hF => ?_
    refine s_end (hK4 _ _ ?_)
    refine wp_ret (res_slot hF rfl rfl ⟨by simp [hq], hB⟩)

/-- Two come to one form. -/
def eqF (a b : SL) : Prop := nfC a = nfC b ∧ nfK a = nfK b
instance (a b : SL) : Decidable (eqF a b) := inferInstanceAs (Decidable (_ ∧ _))
/-- What Equal and Leq tell. -/
def TB (w0 : World) (x y : C3) (la lb : Lv) (P : SL → SL → Prop) [∀ s t, Decidable (P s t)] (b : Bool) : Prop := (¬ (sndL la ∧ sndL lb) → b = false) ∧ ∀ s t, RS w0 s x → RS w0 t y → s.good → t.good → b = decide (P s t)
def leS (s t : SL) : Prop := eqF (.mx s t) t
instance (a b : SL) : Decidable (leS a b) := inferInstanceAs (Decidable (eqF _ _))

set_option maxRecDepth 100000 in
set_option maxHeartbeats 1600000 in
theorem Equal23 (x y : C3) (la lb : Lv) (w0 : World) (hLa : RL w0 x la) (hLb : RL w0 y lb) : Calls Try.prog 115 #[lv x, lv y] w0 fun e w' => ∃ v, e = .returned v ∧ (∃ b, v = .bool b ∧ TB w0 x y la lb eqF b) ∧ Below w0.heap.size w0 w' := by
  have hB := Below.refl w0.heap.size w0
  have sB := hB.size
  refine calls_fs 28 [(0, lv x), (1, lv y)] Try.func115 rfl rfl rfl rfl rfl fun a hF => ?_
  refine wp_rs fun K1 hK1 => ?_
  refine s_box (lc x) hF (by decide) rfl rfl fun w2 b2 a eb2 m2 B3 zb2 hF => ?_
  have sB3 := B3.size
  have hB := hB.trans (B3.mono hB.size)
  refine s_box (lc y) hF (by decide) rfl rfl fun w4 b3 a eb3 m3 B5 zb3 hF => ?_
  have sB5 := B5.size
  have hB := hB.trans (B5.mono hB.size)
  have m2 := m2.old B5
  refine s_val hF (x_assign rfl) (by decide) fun a hF => ?_
  refine s_end (hK1 _ _ ?_)
  rcases (show (decide (sndL la) = false ∧ decide (sndL lb) = false) ∨ (decide (sndL la) = false ∧ decide (sndL lb) = true) ∨ (decide (sndL la) = true ∧ decide (sndL lb) = false) ∨ (decide (sndL la) = true ∧ decide (sndL lb) = true) by cases decide (sndL la) <;> cases decide (sndL lb) <;> simp) with ⟨hd1, hd2⟩ | ⟨hd1, hd2⟩ | ⟨hd1, hd2⟩ | ⟨hd1, hd2⟩
  · have hn : ¬ (sndL la ∧ sndL lb) := fun h => by exact absurd h.1 (of_decide_eq_false hd1)
    have hB9 := hB
    refine wp_rs fun K3 hK3 => ?_
    refine s_val hF (x_ldW wide24 m2 rfl rfl) (by decide) fun a hF => ?_
    refine s_callR (R := fun v w' => ∃ c vk ks, v = .tuple #[.agg [.int .i64 c, vk].toArray, .bool (decide (sndL la))] ∧ FF w4 x la w' c vk ks) [_] hF (enters_of Try.func108 (by kernel_rfl) rfl) rfl (by decide) (formOf38 x la w4 (hLa.old hB)) ?_
    rintro _ w6 a ⟨c1, vk1, ks1, rfl, hf1⟩ B7 hF
    have sB7 := B7.size
    have hB := hB.trans (B7.mono hB.size)
    have m2 := m2.old B7
    have m3 := m3.old B7
    have h1v1 := hf1.1.one
    have hB1 := Below.refl w6.heap.size w6
    rw [hd1] at hF
    refine s_val hF (x_move rfl) (by decide) fun a hF => ?_
    refine s_val hF (x_ext rfl rfl) (by decide) fun a hF => ?_
    refine s_val hF (x_ext rfl rfl) (by decide) fun a hF => ?_
    refine s_alloc hF (by decide) zero59 fun w8 b5 a eb5 m5 B9 zb5 hF => ?_
    have sB9 := B9.size
    have hB := hB.trans (B9.mono hB.size)
    have hB1 := hB1.trans (B9.mono hB1.size)
    have m2 := m2.old B9
    have m3 := m3.old B9
    refine s_putW hF rfl rfl (size_wide wide59) m5 rfl (one2 h1v1) fun w10 m5 o11 => ?_
    have so11 := o11.size
    have hB := hB.trans (o11.below (by omega))
    have hB1 := hB1.trans (o11.below (by omega))
    have m2 := m2.only o11 (by omega)
    have m3 := m3.only o11 (by omega)
    refine s_val hF (x_assign rfl) (by decide) fun a hF => ?_
    refine s_end (hK3 _ _ ?_)
    have hB8 := hB
    refine wp_rs fun K4 hK4 => ?_
    refine s_val hF (x_ldW wide24 m3 rfl rfl) (by decide) fun a hF => ?_
    refine s_callR (R := fun v w' => ∃ c vk ks, v = .tuple #[.agg [.int .i64 c, vk].toArray, .bool (decide (sndL lb))] ∧ FF w10 y lb w' c vk ks) [_] hF (enters_of Try.func108 (by kernel_rfl) rfl) rfl (by decide) (formOf38 y lb w10 (hLb.old hB)) ?_
    rintro _ w12 a ⟨c2, vk2, ks2, rfl, hf2⟩ B13 hF
    have sB13 := B13.size
    have hB := hB.trans (B13.mono hB.size)
    have hB1 := hB1.trans (B13.mono hB1.size)
    have m2 := m2.old B13
    have m3 := m3.old B13
    have m5 := m5.old B13
    have h1v2 := hf2.1.one
    have hB2 := Below.refl w12.heap.size w12
    rw [hd2] at hF
    refine s_val hF (x_move rfl) (by decide) fun a hF => ?_
    refine s_val hF (x_ext rfl rfl) (by decide) fun a hF => ?_
    refine s_val hF (x_ext rfl rfl) (by decide) fun a hF => ?_
    refine s_alloc hF (by decide) zero59 fun w14 b7 a eb7 m7 B15 zb7 hF => ?_
    have sB15 := B15.size
    have hB := hB.trans (B15.mono hB.size)
    have hB1 := hB1.trans (B15.mono hB1.size)
    have hB2 := hB2.trans (B15.mono hB2.size)
    have m2 := m2.old B15
    have m3 := m3.old B15
    have m5 := m5.old B15
    refine s_putW hF rfl rfl (size_wide wide59) m7 rfl (one2 h1v2) fun w16 m7 o17 => ?_
    have so17 := o17.size
    have hB := hB.trans (o17.below (by omega))
    have hB1 := hB1.trans (o17.below (by omega))
    have hB2 := hB2.trans (o17.below (by omega))
    have m2 := m2.only o17 (by omega)
    have m3 := m3.only o17 (by omega)
    have m5 := m5.only o17 (by omega)
    refine s_val hF (x_assign rfl) (by decide) fun a hF => ?_
    refine s_end (hK4 _ _ ?_)
    refine wp_rs fun K5 hK5 => ?_
    refine s_val hF (x_move rfl) (by decide) fun a hF => ?_
    refine s_val hF (x_move rfl) (by decide) fun a hF => ?_
    refine s_grdn 20 hF rfl rfl (by decide) fun a hF => ?_
    refine s_val hF (x_pick (b := false) rfl rfl) (by decide) fun a hF => ?_
    refine s_val hF (x_move rfl) (by decide) fun a hF => ?_
    refine s_grdn 23 hF rfl rfl (by decide) fun a hF => ?_
    refine s_grdn 23 hF rfl rfl (by decide) fun a hF => ?_
    refine s_grdn 23 hF rfl rfl (by decide) fun a hF => ?_
    refine s_val hF (x_pick (b := false) rfl rfl) (by decide) fun a hF => ?_
    refine s_val hF (x_assign rfl) (by decide) fun a hF => ?_
    refine s_end (hK5 _ _ ?_)
    refine wp_ret (res_slot hF rfl rfl ⟨_, rfl, ⟨_, rfl, fun _ => rfl, fun s t hs ht g1 g2 => absurd ⟨rs_snd hLa hs g1, rs_snd hLb ht g2⟩ hn⟩, hB⟩)
  · have hn : ¬ (sndL la ∧ sndL lb) := fun h => by exact absurd h.1 (of_decide_eq_false hd1)
    have hB9 := hB
    refine wp_rs fun K6 hK6 => ?_
    refine s_val hF (x_ldW wide24 m2 rfl rfl) (by decide) fun a hF => ?_
    refine s_callR (R := fun v w' => ∃ c vk ks, v = .tuple #[.agg [.int .i64 c, vk].toArray, .bool (decide (sndL la))] ∧ FF w4 x la w' c vk ks) [_] hF (enters_of Try.func108 (by kernel_rfl) rfl) rfl (by decide) (formOf38 x la w4 (hLa.old hB)) ?_
    rintro _ w18 a ⟨c1, vk1, ks1, rfl, hf1⟩ B19 hF
    have sB19 := B19.size
    have hB := hB.trans (B19.mono hB.size)
    have m2 := m2.old B19
    have m3 := m3.old B19
    have h1v1 := hf1.1.one
    have hB1 := Below.refl w18.heap.size w18
    rw [hd1] at hF
    refine s_val hF (x_move rfl) (by decide) fun a hF => ?_
    refine s_val hF (x_ext rfl rfl) (by decide) fun a hF => ?_
    refine s_val hF (x_ext rfl rfl) (by decide) fun a hF => ?_
    refine s_alloc hF (by decide) zero59 fun w20 b5 a eb5 m5 B21 zb5 hF => ?_
    have sB21 := B21.size
    have hB := hB.trans (B21.mono hB.size)
    have hB1 := hB1.trans (B21.mono hB1.size)
    have m2 := m2.old B21
    have m3 := m3.old B21
    refine s_putW hF rfl rfl (size_wide wide59) m5 rfl (one2 h1v1) fun w22 m5 o23 => ?_
    have so23 := o23.size
    have hB := hB.trans (o23.below (by omega))
    have hB1 := hB1.trans (o23.below (by omega))
    have m2 := m2.only o23 (by omega)
    have m3 := m3.only o23 (by omega)
    refine s_val hF (x_assign rfl) (by decide) fun a hF => ?_
    refine s_end (hK6 _ _ ?_)
    have hB8 := hB
    refine wp_rs fun K7 hK7 => ?_
    refine s_val hF (x_ldW wide24 m3 rfl rfl) (by decide) fun a hF => ?_
    refine s_callR (R := fun v w' => ∃ c vk ks, v = .tuple #[.agg [.int .i64 c, vk].toArray, .bool (decide (sndL lb))] ∧ FF w22 y lb w' c vk ks) [_] hF (enters_of Try.func108 (by kernel_rfl) rfl) rfl (by decide) (formOf38 y lb w22 (hLb.old hB)) ?_
    rintro _ w24 a ⟨c2, vk2, ks2, rfl, hf2⟩ B25 hF
    have sB25 := B25.size
    have hB := hB.trans (B25.mono hB.size)
    have hB1 := hB1.trans (B25.mono hB1.size)
    have m2 := m2.old B25
    have m3 := m3.old B25
    have m5 := m5.old B25
    have h1v2 := hf2.1.one
    have hB2 := Below.refl w24.heap.size w24
    rw [hd2] at hF
    refine s_val hF (x_move rfl) (by decide) fun a hF => ?_
    refine s_val hF (x_ext rfl rfl) (by decide) fun a hF => ?_
    refine s_val hF (x_ext rfl rfl) (by decide) fun a hF => ?_
    refine s_alloc hF (by decide) zero59 fun w26 b7 a eb7 m7 B27 zb7 hF => ?_
    have sB27 := B27.size
    have hB := hB.trans (B27.mono hB.size)
    have hB1 := hB1.trans (B27.mono hB1.size)
    have hB2 := hB2.trans (B27.mono hB2.size)
    have m2 := m2.old B27
    have m3 := m3.old B27
    have m5 := m5.old B27
    refine s_putW hF rfl rfl (size_wide wide59) m7 rfl (one2 h1v2) fun w28 m7 o29 => ?_
    have so29 := o29.size
    have hB := hB.trans (o29.below (by omega))
    have hB1 := hB1.trans (o29.below (by omega))
    have hB2 := hB2.trans (o29.below (by omega))
    have m2 := m2.only o29 (by omega)
    have m3 := m3.only o29 (by omega)
    have m5 := m5.only o29 (by omega)
    refine s_val hF (x_assign rfl) (by decide) fun a hF => ?_
    refine s_end (hK7 _ _ ?_)
    refine wp_rs fun K8 hK8 => ?_
    refine s_val hF (x_move rfl) (by decide) fun a hF => ?_
    refine s_val hF (x_move rfl) (by decide) fun a hF => ?_
    refine s_grdn 20 hF rfl rfl (by decide) fun a hF => ?_
    refine s_val hF (x_pick (b := false) rfl rfl) (by decide) fun a hF => ?_
    refine s_val hF (x_move rfl) (by decide) fun a hF => ?_
    refine s_grdn 23 hF rfl rfl (by decide) fun a hF => ?_
    refine s_grdn 23 hF rfl rfl (by decide) fun a hF => ?_
    refine s_grdn 23 hF rfl rfl (by decide) fun a hF => ?_
    refine s_val hF (x_pick (b := false) rfl rfl) (by decide) fun a hF => ?_
    refine s_val hF (x_assign rfl) (by decide) fun a hF => ?_
    refine s_end (hK8 _ _ ?_)
    refine wp_ret (res_slot hF rfl rfl ⟨_, rfl, ⟨_, rfl, fun _ => rfl, fun s t hs ht g1 g2 => absurd ⟨rs_snd hLa hs g1, rs_snd hLb ht g2⟩ hn⟩, hB⟩)
  · have hn : ¬ (sndL la ∧ sndL lb) := fun h => by exact absurd h.2 (of_decide_eq_false hd2)
    have hB9 := hB
    refine wp_rs fun K9 hK9 => ?_
    refine s_val hF (x_ldW wide24 m2 rfl rfl) (by decide) fun a hF => ?_
    refine s_callR (R := fun v w' => ∃ c vk ks, v = .tuple #[.agg [.int .i64 c, vk].toArray, .bool (decide (sndL la))] ∧ FF w4 x la w' c vk ks) [_] hF (enters_of Try.func108 (by kernel_rfl) rfl) rfl (by decide) (formOf38 x la w4 (hLa.old hB)) ?_
    rintro _ w30 a ⟨c1, vk1, ks1, rfl, hf1⟩ B31 hF
    have sB31 := B31.size
    have hB := hB.trans (B31.mono hB.size)
    have m2 := m2.old B31
    have m3 := m3.old B31
    have h1v1 := hf1.1.one
    have hB1 := Below.refl w30.heap.size w30
    rw [hd1] at hF
    refine s_val hF (x_move rfl) (by decide) fun a hF => ?_
    refine s_val hF (x_ext rfl rfl) (by decide) fun a hF => ?_
    refine s_val hF (x_ext rfl rfl) (by decide) fun a hF => ?_
    refine s_alloc hF (by decide) zero59 fun w32 b5 a eb5 m5 B33 zb5 hF => ?_
    have sB33 := B33.size
    have hB := hB.trans (B33.mono hB.size)
    have hB1 := hB1.trans (B33.mono hB1.size)
    have m2 := m2.old B33
    have m3 := m3.old B33
    refine s_putW hF rfl rfl (size_wide wide59) m5 rfl (one2 h1v1) fun w34 m5 o35 => ?_
    have so35 := o35.size
    have hB := hB.trans (o35.below (by omega))
    have hB1 := hB1.trans (o35.below (by omega))
    have m2 := m2.only o35 (by omega)
    have m3 := m3.only o35 (by omega)
    refine s_val hF (x_assign rfl) (by decide) fun a hF => ?_
    refine s_end (hK9 _ _ ?_)
    have hB8 := hB
    refine wp_rs fun K10 hK10 => ?_
    refine s_val hF (x_ldW wide24 m3 rfl rfl) (by decide) fun a hF => ?_
    refine s_callR (R := fun v w' => ∃ c vk ks, v = .tuple #[.agg [.int .i64 c, vk].toArray, .bool (decide (sndL lb))] ∧ FF w34 y lb w' c vk ks) [_] hF (enters_of Try.func108 (by kernel_rfl) rfl) rfl (by decide) (formOf38 y lb w34 (hLb.old hB)) ?_
    rintro _ w36 a ⟨c2, vk2, ks2, rfl, hf2⟩ B37 hF
    have sB37 := B37.size
    have hB := hB.trans (B37.mono hB.size)
    have hB1 := hB1.trans (B37.mono hB1.size)
    have m2 := m2.old B37
    have m3 := m3.old B37
    have m5 := m5.old B37
    have h1v2 := hf2.1.one
    have hB2 := Below.refl w36.heap.size w36
    rw [hd2] at hF
    refine s_val hF (x_move rfl) (by decide) fun a hF => ?_
    refine s_val hF (x_ext rfl rfl) (by decide) fun a hF => ?_
    refine s_val hF (x_ext rfl rfl) (by decide) fun a hF => ?_
    refine s_alloc hF (by decide) zero59 fun w38 b7 a eb7 m7 B39 zb7 hF => ?_
    have sB39 := B39.size
    have hB := hB.trans (B39.mono hB.size)
    have hB1 := hB1.trans (B39.mono hB1.size)
    have hB2 := hB2.trans (B39.mono hB2.size)
    have m2 := m2.old B39
    have m3 := m3.old B39
    have m5 := m5.old B39
    refine s_putW hF rfl rfl (size_wide wide59) m7 rfl (one2 h1v2) fun w40 m7 o41 => ?_
    have so41 := o41.size
    have hB := hB.trans (o41.below (by omega))
    have hB1 := hB1.trans (o41.below (by omega))
    have hB2 := hB2.trans (o41.below (by omega))
    have m2 := m2.only o41 (by omega)
    have m3 := m3.only o41 (by omega)
    have m5 := m5.only o41 (by omega)
    refine s_val hF (x_assign rfl) (by decide) fun a hF => ?_
    refine s_end (hK10 _ _ ?_)
    refine wp_rs fun K11 hK11 => ?_
    refine s_val hF (x_move rfl) (by decide) fun a hF => ?_
    refine s_val hF (x_move rfl) (by decide) fun a hF => ?_
    refine s_grd 20 hF rfl rfl rfl ?_
    refine s_val hF (x_move rfl) (by decide) fun a hF => ?_
    refine s_val hF (x_pick (b := true) rfl rfl) (by decide) fun a hF => ?_
    refine s_val hF (x_move rfl) (by decide) fun a hF => ?_
    refine s_grdn 23 hF rfl rfl (by decide) fun a hF => ?_
    refine s_grdn 23 hF rfl rfl (by decide) fun a hF => ?_
    refine s_grdn 23 hF rfl rfl (by decide) fun a hF => ?_
    refine s_val hF (x_pick (b := false) rfl rfl) (by decide) fun a hF => ?_
    refine s_val hF (x_assign rfl) (by decide) fun a hF => ?_
    refine s_end (hK11 _ _ ?_)
    refine wp_ret (res_slot hF rfl rfl ⟨_, rfl, ⟨_, rfl, fun _ => rfl, fun s t hs ht g1 g2 => absurd ⟨rs_snd hLa hs g1, rs_snd hLb ht g2⟩ hn⟩, hB⟩)
  · have hsa : sndL la := of_decide_eq_true hd1
    have hsb : sndL lb := of_decide_eq_true hd2
    obtain ⟨s, hs, hsg⟩ := sound_sl hLa hsa
    obtain ⟨t, ht, htg⟩ := sound_sl hLb hsb
    have hns := nfK_len s hsg
    have hnt := nfK_len t htg
    have hB9 := hB
    refine wp_rs fun K12 hK12 => ?_
    refine s_val hF (x_ldW wide24 m2 rfl rfl) (by decide) fun a hF => ?_
    refine s_callR (R := fun v w' => ∃ c vk ks, v = .tuple #[.agg [.int .i64 c, vk].toArray, .bool (decide (sndL la))] ∧ FF w4 x la w' c vk ks) [_] hF (enters_of Try.func108 (by kernel_rfl) rfl) rfl (by decide) (formOf38 x la w4 (hLa.old hB)) ?_
    rintro _ w42 a ⟨c1, vk1, ks1, rfl, hf1⟩ B43 hF
    have sB43 := B43.size
    have hB := hB.trans (B43.mono hB.size)
    have m2 := m2.old B43
    have m3 := m3.old B43
    have h1v1 := hf1.1.one
    have hB1 := Below.refl w42.heap.size w42
    rw [hd1] at hF
    obtain ⟨rfl, rfl⟩ := hf1.2.2 s (RS.below hB9 hs) hsg
    refine s_val hF (x_move rfl) (by decide) fun a hF => ?_
    refine s_val hF (x_ext rfl rfl) (by decide) fun a hF => ?_
    refine s_val hF (x_ext rfl rfl) (by decide) fun a hF => ?_
    refine s_alloc hF (by decide) zero59 fun w44 b5 a eb5 m5 B45 zb5 hF => ?_
    have sB45 := B45.size
    have hB := hB.trans (B45.mono hB.size)
    have hB1 := hB1.trans (B45.mono hB1.size)
    have m2 := m2.old B45
    have m3 := m3.old B45
    refine s_putW hF rfl rfl (size_wide wide59) m5 rfl (one2 h1v1) fun w46 m5 o47 => ?_
    have so47 := o47.size
    have hB := hB.trans (o47.below (by omega))
    have hB1 := hB1.trans (o47.below (by omega))
    have m2 := m2.only o47 (by omega)
    have m3 := m3.only o47 (by omega)
    refine s_val hF (x_assign rfl) (by decide) fun a hF => ?_
    refine s_end (hK12 _ _ ?_)
    have hB8 := hB
    refine wp_rs fun K13 hK13 => ?_
    refine s_val hF (x_ldW wide24 m3 rfl rfl) (by decide) fun a hF => ?_
    refine s_callR (R := fun v w' => ∃ c vk ks, v = .tuple #[.agg [.int .i64 c, vk].toArray, .bool (decide (sndL lb))] ∧ FF w46 y lb w' c vk ks) [_] hF (enters_of Try.func108 (by kernel_rfl) rfl) rfl (by decide) (formOf38 y lb w46 (hLb.old hB)) ?_
    rintro _ w48 a ⟨c2, vk2, ks2, rfl, hf2⟩ B49 hF
    have sB49 := B49.size
    have hB := hB.trans (B49.mono hB.size)
    have hB1 := hB1.trans (B49.mono hB1.size)
    have m2 := m2.old B49
    have m3 := m3.old B49
    have m5 := m5.old B49
    have h1v2 := hf2.1.one
    have hB2 := Below.refl w48.heap.size w48
    rw [hd2] at hF
    obtain ⟨rfl, rfl⟩ := hf2.2.2 t (RS.below hB8 ht) htg
    refine s_val hF (x_move rfl) (by decide) fun a hF => ?_
    refine s_val hF (x_ext rfl rfl) (by decide) fun a hF => ?_
    refine s_val hF (x_ext rfl rfl) (by decide) fun a hF => ?_
    refine s_alloc hF (by decide) zero59 fun w50 b7 a eb7 m7 B51 zb7 hF => ?_
    have sB51 := B51.size
    have hB := hB.trans (B51.mono hB.size)
    have hB1 := hB1.trans (B51.mono hB1.size)
    have hB2 := hB2.trans (B51.mono hB2.size)
    have m2 := m2.old B51
    have m3 := m3.old B51
    have m5 := m5.old B51
    refine s_putW hF rfl rfl (size_wide wide59) m7 rfl (one2 h1v2) fun w52 m7 o53 => ?_
    have so53 := o53.size
    have hB := hB.trans (o53.below (by omega))
    have hB1 := hB1.trans (o53.below (by omega))
    have hB2 := hB2.trans (o53.below (by omega))
    have m2 := m2.only o53 (by omega)
    have m3 := m3.only o53 (by omega)
    have m5 := m5.only o53 (by omega)
    refine s_val hF (x_assign rfl) (by decide) fun a hF => ?_
    refine s_end (hK13 _ _ ?_)
    refine wp_rs fun K14 hK14 => ?_
    refine s_val hF (x_move rfl) (by decide) fun a hF => ?_
    refine s_val hF (x_move rfl) (by decide) fun a hF => ?_
    refine s_grd 20 hF rfl rfl rfl ?_
    refine s_val hF (x_move rfl) (by decide) fun a hF => ?_
    refine s_val hF (x_pick (b := true) rfl rfl) (by decide) fun a hF => ?_
    refine s_val hF (x_move rfl) (by decide) fun a hF => ?_
    refine s_grd 23 hF rfl rfl rfl ?_
    refine s_val hF (x_ldW wide59 m5 rfl rfl) (by decide) fun a hF => ?_
    refine s_grd 23 hF rfl rfl rfl ?_
    refine s_val hF (x_ldW wide59 m7 rfl rfl) (by decide) fun a hF => ?_
    refine s_grd 23 hF rfl rfl rfl ?_
    refine s_callB [_, _] hF (enters_of Try.func131 (by kernel_rfl) rfl) rfl (by decide) (same44 _ _ _ _ (nfK s) (nfK t) w52 (by omega) (hf1.1.below hB1) (hf2.1.below hB2)) fun w54 a B55 hF => ?_
    have sB55 := B55.size
    have hB := hB.trans (B55.mono hB.size)
    have hB1 := hB1.trans (B55.mono hB1.size)
    have hB2 := hB2.trans (B55.mono hB2.size)
    have m2 := m2.old B55
    have m3 := m3.old B55
    have m5 := m5.old B55
    have m7 := m7.old B55
    refine s_val hF (x_pick (b := true) rfl rfl) (by decide) fun a hF => ?_
    refine s_val hF (x_assign rfl) (by decide) fun a hF => ?_
    refine s_end (hK14 _ _ ?_)
    refine wp_ret (res_slot hF rfl rfl ⟨_, rfl, ⟨_, rfl, fun h => absurd ⟨hsa, hsb⟩ h, fun s' t' hs' ht' _ _ => by rw [RS.inj hs' hs, RS.inj ht' ht]; rfl⟩, hB⟩)

end Go.Proofs.Ytaclncmkdpjnlaa

namespace Go.Proofs.Ytaclncmkdpjnlaa
open Go.RowKit Go.Shelf
set_option linter.unusedVariables false
set_option linter.unusedSimpArgs false

def eqO : Option SL → Option SL → Prop
  | some s, some t => eqF s t
  | _, _ => False
def eqOs (os ps : List (Option SL)) : Prop := os.length = ps.length ∧ ∀ (i : Nat) o p, os[i]? = some o → ps[i]? = some p → eqO o p
def sameP : PT → PT → Prop
  | .var n, .var m => n = m
  | .sort o, .sort p => eqO o p
  | .cst s os, .cst t ps => s = t ∧ eqOs os ps
  | .odd k, .odd j => k = j
  | .two k a b, .two j c d => k = j ∧ sameP a c ∧ sameP b d
  | .lt a b c, .lt d e f => sameP a d ∧ sameP b e ∧ sameP c f
  | _, _ => False
def PT.fit : PT → Prop
  | .cst _ os => os.length ≤ 9223372036854775807
  | .two _ a b => a.fit ∧ b.fit
  | .lt a b c => a.fit ∧ b.fit ∧ c.fit
  | _ => True
theorem CT.fit_ess : ∀ {c : CT}, c.fit → c.ess.fit
  | .two _ a b _, h => ⟨CT.fit_ess h.1, CT.fit_ess h.2⟩
  | .lt a b c _, h => ⟨CT.fit_ess h.1, CT.fit_ess h.2.1, CT.fit_ess h.2.2⟩
  | .cst s ls _, h => by simp only [CT.ess, PT.fit, List.length_map]; exact h.2
  | .var .., _ => trivial
  | .sort .., _ => trivial
  | .odd .., _ => trivial
theorem PT.fit_kid {c k : CT} {i : Nat} (h : c.ess.fit) (hk : c.kids[i]? = some k) : k.ess.fit := by
  cases c with
  | two _ a b _ =>
    rcases i with _ | _ | i
    · simp [CT.kids] at hk; subst hk; exact h.1
    · simp [CT.kids] at hk; subst hk; exact h.2
    · simp [CT.kids] at hk
  | lt a b c _ =>
    rcases i with _ | _ | _ | i
    · simp [CT.kids] at hk; subst hk; exact h.1
    · simp [CT.kids] at hk; subst hk; exact h.2.1
    · simp [CT.kids] at hk; subst hk; exact h.2.2
    · simp [CT.kids] at hk
  | _ => simp [CT.kids] at hk
theorem TB.iff {w0 : World} {x y : C3} {la lb : Lv} {b : Bool} (h : TB w0 x y la lb eqF b) (hx : RL w0 x la) (hy : RL w0 y lb) : b = true ↔ eqO (slO la) (slO lb) := by
  by_cases ha : sndL la
  · by_cases hb : sndL lb
    · obtain ⟨s, h1, h2⟩ := sound_sl hx ha
      obtain ⟨t, h3, h4⟩ := sound_sl hy hb
      rw [h.2 s t h1 h3 h2 h4, slO_of hx h1 h2, slO_of hy h3 h4, decide_eq_true_iff]
      rfl
    · rw [h.1 (fun h' => hb h'.2), (slO_none hy).2 hb]
      cases slO la <;> simp [eqO]
  · rw [h.1 (fun h' => ha h'.1), (slO_none hx).2 ha]
    simp [eqO]
theorem same_rest {W : World} {A : Nat → Prop} : ∀ {c d : CT} {x y : C8}, RC W A c x → RC W A d y → x.k = y.k → (x.k ≠ 1 ∧ x.k ≠ 2 ∧ x.k ≠ 7) → (sameP c.ess d.ess ↔ c.kids.length = d.kids.length ∧ ∀ (i : Nat) a b, c.kids[i]? = some a → d.kids[i]? = some b → sameP a.ess b.ess)
  | .var .., _, x, y, h, h2, hk, h3 => by have := h.1; omega
  | .sort .., _, x, y, h, h2, hk, h3 => by have := h.1; omega
  | .cst .., _, x, y, h, h2, hk, h3 => by have := h.1; omega
  | _, .var .., x, y, h, h2, hk, h3 => by have := h2.1; omega
  | _, .sort .., x, y, h, h2, hk, h3 => by have := h2.1; omega
  | _, .cst .., x, y, h, h2, hk, h3 => by have := h2.1; omega
  | .odd k m, .odd j n, x, y, h, h2, hk, h3 => by
    have := h.1
    have := h2.1
    simp [CT.ess, sameP, CT.kids]
    omega
  | .odd k m, .two .., x, y, h, h2, hk, h3 => by simp [CT.ess, sameP, CT.kids]
  | .odd k m, .lt .., x, y, h, h2, hk, h3 => by simp [CT.ess, sameP, CT.kids]
  | .two .., .odd .., x, y, h, h2, hk, h3 => by simp [CT.ess, sameP, CT.kids]
  | .lt .., .odd .., x, y, h, h2, hk, h3 => by simp [CT.ess, sameP, CT.kids]
  | .two .., .lt .., x, y, h, h2, hk, h3 => by simp [CT.ess, sameP, CT.kids]
  | .lt .., .two .., x, y, h, h2, hk, h3 => by simp [CT.ess, sameP, CT.kids]
  | .two k a b m, .two j c d n, x, y, h, h2, hk, h3 => by
    have e1 := h.1
    have e2 := h2.1
    simp only [CT.ess, sameP, CT.kids]
    constructor
    · rintro ⟨_, g1, g2⟩
      refine ⟨rfl, fun i p q e3 e4 => ?_⟩
      rcases i with _ | _ | i
      · simp at e3 e4; subst e3 e4; exact g1
      · simp at e3 e4; subst e3 e4; exact g2
      · simp at e3
    · rintro ⟨_, g⟩
      exact ⟨by omega, g 0 a c rfl rfl, g 1 b d rfl rfl⟩
  | .lt a b c m, .lt d e f n, x, y, h, h2, hk, h3 => by
    simp only [CT.ess, sameP, CT.kids]
    constructor
    · rintro ⟨g1, g2, g3⟩
      refine ⟨rfl, fun i p q e3 e4 => ?_⟩
      rcases i with _ | _ | _ | i
      · simp at e3 e4; subst e3 e4; exact g1
      · simp at e3 e4; subst e3 e4; exact g2
      · simp at e3 e4; subst e3 e4; exact g3
      · simp at e3
    · rintro ⟨_, g⟩
      exact ⟨g 0 a d rfl rfl, g 1 b e rfl rfl, g 2 c f rfl rfl⟩

set_option maxRecDepth 100000 in
set_option maxHeartbeats 400000 in
theorem eqL116 (cs ds : List Lv) (v u : Value) (w0 : World) (hV : RVn w0 (fun k => k < w0.heap.size) v cs) (hU : RVn w0 (fun k => k < w0.heap.size) u ds) (hlen : cs.length ≤ 9223372036854775807) : Calls Try.prog 116 #[v, u, .func (.func 115) #[] #[]] w0 fun e w' => ∃ z, e = .returned z ∧ (∃ b, z = .bool b ∧ (b = true ↔ cs.length = ds.length ∧ ∀ (i : Nat) p q, cs[i]? = some p → ds[i]? = some q → eqO (slO p) (slO q))) ∧ Below w0.heap.size w0 w' := by
  obtain ⟨av, cv, hve, _⟩ := hV.form
  subst hve
  obtain ⟨au, cu, hue, _⟩ := hU.form
  subst hue
  have hB := Below.refl w0.heap.size w0
  have sB := hB.size
  refine calls_fs 32 [(0, .slice av cs.length cv), (1, .slice au ds.length cu), (2, .func (.func 115) #[] #[])] Try.func116 rfl rfl rfl rfl rfl fun a hF => ?_
  refine wp_rs fun K1 hK1 => ?_
  refine s_val hF (x_assign rfl) (by decide) fun a hF => ?_
  refine s_end (hK1 _ _ ?_)
  refine wp_seq_k fun K2 hK2 => ?_
  rcases (show cs.length ≠ ds.length ∨ cs.length = ds.length by omega) with hk1 | hk1
  · skip
    refine wp_rs fun K4 hK4 => ?_
    refine s_val hF (x_move rfl) (by decide) fun a hF => ?_
    refine s_val hF (x_len Try.underlying22 rfl) (by decide) fun a hF => ?_
    refine s_val hF (x_move rfl) (by decide) fun a hF => ?_
    refine s_val hF (x_len Try.underlying22 rfl) (by decide) fun a hF => ?_
    refine s_val hF (x_neq (b := true) (decide_eq_true (by omega)) rfl rfl) (by decide) fun a hF => ?_
    refine s_end (hK4 _ _ ?_)
    refine wp_if hF rfl ?_
    refine wp_rs fun K5 hK5 => ?_
    refine s_val hF (x_assign rfl) (by decide) fun a hF => ?_
    refine s_end (hK5 _ _ ?_)
    refine wp_ret (then_ret (res_slot hF rfl rfl ⟨_, rfl, ⟨false, rfl, fun h => absurd h (by decide), fun h => absurd h.1 hk1⟩, hB⟩))
  · skip
    refine wp_rs fun K6 hK6 => ?_
    refine s_val hF (x_move rfl) (by decide) fun a hF => ?_
    refine s_val hF (x_len Try.underlying22 rfl) (by decide) fun a hF => ?_
    refine s_val hF (x_move rfl) (by decide) fun a hF => ?_
    refine s_val hF (x_len Try.underlying22 rfl) (by decide) fun a hF => ?_
    refine s_val hF (x_neq (b := false) (decide_eq_false (by omega)) rfl rfl) (by decide) fun a hF => ?_
    refine s_end (hK6 _ _ ?_)
    refine wp_if hF rfl ?_
    refine wp_skip (hK2 _ _ ?_)
    refine wp_seq_k fun K7 hK7 => ?_
    refine wp_rs fun K8 hK8 => ?_
    refine s_val hF (x_move rfl) (by decide) fun a hF => ?_
    refine s_val hF (x_len Try.underlying22 rfl) (by decide) fun a hF => ?_
    refine s_val hF (x_move rfl) (by decide) fun a hF => ?_
    refine s_end (hK8 _ _ ?_)
    refine wp_block ?_
    refine wp_up cs.length (fun i a w => (∀ (j : Nat) p q, j < i → cs[j]? = some p → ds[j]? = some q → eqO (slO p) (slO q)) ∧ Below w0.heap.size w0 w ∧ Fs 32 a [(1, .slice au ds.length cu), (2, .func (.func 115) #[] #[]), (15, .slice av cs.length cv), (16, .int .i64 (cs.length : Int)), (17, .int .i64 (i : Int))]) ⟨(fun j p q h => absurd h (by omega)), hB, hF.sub _ rfl⟩ ?_
    clear hF hB
    rintro i a w hi ⟨hok, hB, hF⟩ K' hK'
    have sB := hB.size
    refine wp_rs fun K9 hK9 => ?_
    refine s_val hF (x_lss (b := decide (i < cs.length)) (decide_eq_decide.2 (by omega)) rfl rfl) (by decide) fun a hF => ?_
    refine s_end (hK9 _ _ ?_)
    refine wp_seq_k fun K10 hK10 => ?_
    refine wp_iff hF rfl (fun hc18 => ?_) (fun hc18 => ?_)
    · obtain ⟨b9, off9, c9, x, p, hve, hp, hrx, hAb, hbl, hrow⟩ := hV.row (i := i) (by omega)
      obtain ⟨b8, off8, c8, y, q, hue, hq, hry, hAb8, hbl8, hrow8⟩ := hU.row (i := i) (by omega)
      cases hve
      cases hue
      refine wp_skip (hK10 _ _ ?_)
      refine wp_seq_k fun K11 hK11 => ?_
      refine wp_block ?_
      refine wp_rs fun K12 hK12 => ?_
      refine s_val hF (x_move rfl) (by decide) fun a hF => ?_
      refine s_val hF (x_ixa rfl rfl (m_ixsK i Try.underlying22 el22.size rfl (by omega))) (by decide) fun a hF => ?_
      refine s_val hF (x_ldA wide24 (hrow _ (hB.block _ hbl)) rfl rfl) (by decide) fun a hF => ?_
      refine s_alloc hF (by decide) zero24 fun w2 b8 a eb8 m8 B3 zb8 hF => ?_
      have sB3 := B3.size
      have hB := hB.trans (B3.mono hB.size)
      refine s_val hF (x_assign rfl) (by decide) fun a hF => ?_
      refine s_putW hF rfl rfl (size_wide wide24) m8 rfl (one_lc (RLn.rl hrx).one1) fun w6 m8 o7 => ?_
      have so7 := o7.size
      have hB := hB.trans (o7.below (by omega))
      refine s_end (hK12 _ _ ?_)
      refine wp_rs fun K13 hK13 => ?_
      refine s_val hF (x_move rfl) (by decide) fun a hF => ?_
      refine s_val hF (x_move rfl) (by decide) fun a hF => ?_
      refine s_val hF (x_ixa rfl rfl (m_ixsK i Try.underlying22 el22.size rfl (by omega))) (by decide) fun a hF => ?_
      refine s_val hF (x_ldA wide24 (hrow8 _ (hB.block _ hbl8)) rfl rfl) (by decide) fun a hF => ?_
      refine s_alloc hF (by decide) zero24 fun w8 b9 a eb9 m9 B9 zb9 hF => ?_
      have sB9 := B9.size
      have hB := hB.trans (B9.mono hB.size)
      have m8 := m8.old B9
      refine s_putW hF rfl rfl (size_wide wide24) m9 rfl (one_lc (RLn.rl hry).one1) fun w12 m9 o13 => ?_
      have so13 := o13.size
      have hB := hB.trans (o13.below (by omega))
      have m8 := m8.only o13 (by omega)
      refine s_end (hK13 _ _ ?_)
      refine wp_rs fun K14 hK14 => ?_
      refine s_val hF (x_move rfl) (by decide) fun a hF => ?_
      refine s_val hF (x_ldW wide24 m8 rfl rfl) (by decide) fun a hF => ?_
      refine s_val hF (x_ldW wide24 m9 rfl rfl) (by decide) fun a hF => ?_
      refine s_callC (R := fun v w' => (∃ b, v = .bool b ∧ (b = true ↔ eqO (slO p) (slO q))) ∧ Below w12.heap.size w12 w') (lb := []) hF [_, _] rfl (enters_of Try.func115 (by kernel_rfl) rfl) rfl (by decide) ((Equal23 x y p q w12 (hrx.keep hB.size (fun k hk _ => hB.block k hk)).rl (hry.keep hB.size (fun k hk _ => hB.block k hk)).rl).mono fun e w' ⟨v, h1, ⟨b, h2, h3⟩, h4⟩ => ⟨v, h1, ⟨b, h2, h3.iff (hrx.keep hB.size (fun k hk _ => hB.block k hk)).rl (hry.keep hB.size (fun k hk _ => hB.block k hk)).rl⟩, h4⟩) ?_
      rintro _ w14 a ⟨⟨b29, rfl, h29⟩, B15⟩ hF
      have sB15 := B15.size
      have hB := hB.trans (B15.mono hB.size)
      have m8 := m8.old B15
      have m9 := m9.old B15
      refine s_val hF (x_not rfl) (by decide) fun a hF => ?_
      refine s_end (hK14 _ _ ?_)
      refine wp_ifb hF rfl (fun hc30 => ?_) (fun hc30 => ?_)
      · have hn29 : ¬ (eqO (slO p) (slO q)) := fun h => by have := h29.2 h; subst this; simp at hc30
        refine wp_rs fun K15 hK15 => ?_
        refine s_val hF (x_assign rfl) (by decide) fun a hF => ?_
        refine s_end (hK15 _ _ ?_)
        refine wp_ret (inb_ret (then_ret (then_ret (inb_ret (then_ret (res_slot hF rfl rfl ⟨_, rfl, ⟨false, rfl, fun h => absurd h (by decide), fun h => (hn29 (h.2 i p q hp hq)).elim⟩, hB⟩))))))
      · obtain rfl : b29 = true := by simpa using hc30
        have h30 := h29.1 rfl
        refine wp_skip (hK11 _ _ ?_)
        refine wp_region_lit ?_
        refine s_val hF (x_addn (i + 1) (by omega) (by omega) rfl rfl) (by decide) fun a hF => ?_
        refine s_val hF (x_move rfl) (by decide) fun a hF => ?_
        refine s_end (hK' _ _ (by omega) ⟨(fun j p' q' hj e1 e2 => by rcases Nat.lt_or_ge j i with h | h; (· exact hok j p' q' h e1 e2); (· obtain rfl : j = i := (by omega); rw [hp] at e1; rw [hq] at e2; cases e1; cases e2; exact h30)), hB, hF.sub _ rfl⟩)
    · obtain rfl : i = cs.length := by omega
      refine wp_exit (hK7 _ _ ?_)
      refine wp_rs fun K16 hK16 => ?_
      refine s_val hF (x_assign rfl) (by decide) fun a hF => ?_
      refine s_end (hK16 _ _ ?_)
      refine wp_ret (res_slot hF rfl rfl ⟨_, rfl, ⟨true, rfl, fun _ => ⟨hk1, fun j p q e1 e2 => hok j p q (List.getElem?_eq_some_iff.1 e1).1 e1 e2⟩, fun _ => rfl⟩, hB⟩)

set_option maxRecDepth 100000 in
set_option maxHeartbeats 400000 in
theorem eqT117 (cs ds : List CT) (v u : Value) (w0 : World) (hV : RK w0 (fun k => k < w0.heap.size) v cs) (hU : RK w0 (fun k => k < w0.heap.size) u ds) (hlen : cs.length ≤ 9223372036854775807) (HS : ∀ (p q : CT) (x y : C8) (w : World) (i : Nat), cs[i]? = some p → ds[i]? = some q → RC w (fun k => k < w.heap.size) p x → RC w (fun k => k < w.heap.size) q y → Calls Try.prog 76 #[tv x, tv y] w fun e w' => ∃ z, e = .returned z ∧ (∃ b, z = .bool b ∧ (b = true ↔ sameP p.ess q.ess)) ∧ Below w.heap.size w w') : Calls Try.prog 117 #[v, u, .func (.func 76) #[] #[]] w0 fun e w' => ∃ z, e = .returned z ∧ (∃ b, z = .bool b ∧ (b = true ↔ cs.length = ds.length ∧ ∀ (i : Nat) p q, cs[i]? = some p → ds[i]? = some q → sameP p.ess q.ess)) ∧ Below w0.heap.size w0 w' := by
  obtain ⟨av, cv, hve, _⟩ := hV.form
  subst hve
  obtain ⟨au, cu, hue, _⟩ := hU.form
  subst hue
  have hB := Below.refl w0.heap.size w0
  have sB := hB.size
  refine calls_fs 32 [(0, .slice av cs.length cv), (1, .slice au ds.length cu), (2, .func (.func 76) #[] #[])] Try.func117 rfl rfl rfl rfl rfl fun a hF => ?_
  refine wp_rs fun K1 hK1 => ?_
  refine s_val hF (x_assign rfl) (by decide) fun a hF => ?_
  refine s_end (hK1 _ _ ?_)
  refine wp_seq_k fun K2 hK2 => ?_
  rcases (show cs.length ≠ ds.length ∨ cs.length = ds.length by omega) with hk1 | hk1
  · skip
    refine wp_rs fun K4 hK4 => ?_
    refine s_val hF (x_move rfl) (by decide) fun a hF => ?_
    refine s_val hF (x_len Try.underlying25 rfl) (by decide) fun a hF => ?_
    refine s_val hF (x_move rfl) (by decide) fun a hF => ?_
    refine s_val hF (x_len Try.underlying25 rfl) (by decide) fun a hF => ?_
    refine s_val hF (x_neq (b := true) (decide_eq_true (by omega)) rfl rfl) (by decide) fun a hF => ?_
    refine s_end (hK4 _ _ ?_)
    refine wp_if hF rfl ?_
    refine wp_rs fun K5 hK5 => ?_
    refine s_val hF (x_assign rfl) (by decide) fun a hF => ?_
    refine s_end (hK5 _ _ ?_)
    refine wp_ret (then_ret (res_slot hF rfl rfl ⟨_, rfl, ⟨false, rfl, fun h => absurd h (by decide), fun h => absurd h.1 hk1⟩, hB⟩))
  · skip
    refine wp_rs fun K6 hK6 => ?_
    refine s_val hF (x_move rfl) (by decide) fun a hF => ?_
    refine s_val hF (x_len Try.underlying25 rfl) (by decide) fun a hF => ?_
    refine s_val hF (x_move rfl) (by decide) fun a hF => ?_
    refine s_val hF (x_len Try.underlying25 rfl) (by decide) fun a hF => ?_
    refine s_val hF (x_neq (b := false) (decide_eq_false (by omega)) rfl rfl) (by decide) fun a hF => ?_
    refine s_end (hK6 _ _ ?_)
    refine wp_if hF rfl ?_
    refine wp_skip (hK2 _ _ ?_)
    refine wp_seq_k fun K7 hK7 => ?_
    refine wp_rs fun K8 hK8 => ?_
    refine s_val hF (x_move rfl) (by decide) fun a hF => ?_
    refine s_val hF (x_len Try.underlying25 rfl) (by decide) fun a hF => ?_
    refine s_val hF (x_move rfl) (by decide) fun a hF => ?_
    refine s_end (hK8 _ _ ?_)
    refine wp_block ?_
    refine wp_up cs.length (fun i a w => (∀ (j : Nat) p q, j < i → cs[j]? = some p → ds[j]? = some q → sameP p.ess q.ess) ∧ Below w0.heap.size w0 w ∧ Fs 32 a [(1, .slice au ds.length cu), (2, .func (.func 76) #[] #[]), (15, .slice av cs.length cv), (16, .int .i64 (cs.length : Int)), (17, .int .i64 (i : Int))]) ⟨(fun j p q h => absurd h (by omega)), hB, hF.sub _ rfl⟩ ?_
    clear hF hB
    rintro i a w hi ⟨hok, hB, hF⟩ K' hK'
    have sB := hB.size
    refine wp_rs fun K9 hK9 => ?_
    refine s_val hF (x_lss (b := decide (i < cs.length)) (decide_eq_decide.2 (by omega)) rfl rfl) (by decide) fun a hF => ?_
    refine s_end (hK9 _ _ ?_)
    refine wp_seq_k fun K10 hK10 => ?_
    refine wp_iff hF rfl (fun hc18 => ?_) (fun hc18 => ?_)
    · obtain ⟨b9, off9, c9, x, p, hve, hp, hrx, hAb, hbl, hrow⟩ := hV.row (i := i) (by omega)
      obtain ⟨b8, off8, c8, y, q, hue, hq, hry, hAb8, hbl8, hrow8⟩ := hU.row (i := i) (by omega)
      cases hve
      cases hue
      refine wp_skip (hK10 _ _ ?_)
      refine wp_seq_k fun K11 hK11 => ?_
      refine wp_block ?_
      refine wp_rs fun K12 hK12 => ?_
      refine s_val hF (x_move rfl) (by decide) fun a hF => ?_
      refine s_val hF (x_ixa rfl rfl (m_ixsK i Try.underlying25 el25.size rfl (by omega))) (by decide) fun a hF => ?_
      refine s_val hF (x_ldA wide27 (hrow _ (hB.block _ hbl)) rfl rfl) (by decide) fun a hF => ?_
      refine s_alloc hF (by decide) zero27 fun w2 b8 a eb8 m8 B3 zb8 hF => ?_
      have sB3 := B3.size
      have hB := hB.trans (B3.mono hB.size)
      refine s_val hF (x_assign rfl) (by decide) fun a hF => ?_
      refine s_putW hF rfl rfl (size_wide wide27) m8 rfl hrx.one fun w6 m8 o7 => ?_
      have so7 := o7.size
      have hB := hB.trans (o7.below (by omega))
      refine s_end (hK12 _ _ ?_)
      refine wp_rs fun K13 hK13 => ?_
      refine s_val hF (x_move rfl) (by decide) fun a hF => ?_
      refine s_val hF (x_move rfl) (by decide) fun a hF => ?_
      refine s_val hF (x_ixa rfl rfl (m_ixsK i Try.underlying25 el25.size rfl (by omega))) (by decide) fun a hF => ?_
      refine s_val hF (x_ldA wide27 (hrow8 _ (hB.block _ hbl8)) rfl rfl) (by decide) fun a hF => ?_
      refine s_alloc hF (by decide) zero27 fun w8 b9 a eb9 m9 B9 zb9 hF => ?_
      have sB9 := B9.size
      have hB := hB.trans (B9.mono hB.size)
      have m8 := m8.old B9
      refine s_putW hF rfl rfl (size_wide wide27) m9 rfl hry.one fun w12 m9 o13 => ?_
      have so13 := o13.size
      have hB := hB.trans (o13.below (by omega))
      have m8 := m8.only o13 (by omega)
      refine s_end (hK13 _ _ ?_)
      refine wp_rs fun K14 hK14 => ?_
      refine s_val hF (x_move rfl) (by decide) fun a hF => ?_
      refine s_val hF (x_ldW wide27 m8 rfl rfl) (by decide) fun a hF => ?_
      refine s_val hF (x_ldW wide27 m9 rfl rfl) (by decide) fun a hF => ?_
      refine s_callC (R := fun v w' => (∃ b, v = .bool b ∧ (b = true ↔ sameP p.ess q.ess)) ∧ Below w12.heap.size w12 w') (lb := []) hF [_, _] rfl (enters_of Try.func76 (by kernel_rfl) rfl) rfl (by decide) (HS p q x y w12 i hp hq (hrx.bel hB) (hry.bel hB)) ?_
      rintro _ w14 a ⟨⟨b29, rfl, h29⟩, B15⟩ hF
      have sB15 := B15.size
      have hB := hB.trans (B15.mono hB.size)
      have m8 := m8.old B15
      have m9 := m9.old B15
      refine s_val hF (x_not rfl) (by decide) fun a hF => ?_
      refine s_end (hK14 _ _ ?_)
      refine wp_ifb hF rfl (fun hc30 => ?_) (fun hc30 => ?_)
      · have hn29 : ¬ (sameP p.ess q.ess) := fun h => by have := h29.2 h; subst this; simp at hc30
        refine wp_rs fun K15 hK15 => ?_
        refine s_val hF (x_assign rfl) (by decide) fun a hF => ?_
        refine s_end (hK15 _ _ ?_)
        refine wp_ret (inb_ret (then_ret (then_ret (inb_ret (then_ret (res_slot hF rfl rfl ⟨_, rfl, ⟨false, rfl, fun h => absurd h (by decide), fun h => (hn29 (h.2 i p q hp hq)).elim⟩, hB⟩))))))
      · obtain rfl : b29 = true := by simpa using hc30
        have h30 := h29.1 rfl
        refine wp_skip (hK11 _ _ ?_)
        refine wp_region_lit ?_
        refine s_val hF (x_addn (i + 1) (by omega) (by omega) rfl rfl) (by decide) fun a hF => ?_
        refine s_val hF (x_move rfl) (by decide) fun a hF => ?_
        refine s_end (hK' _ _ (by omega) ⟨(fun j p' q' hj e1 e2 => by rcases Nat.lt_or_ge j i with h | h; (· exact hok j p' q' h e1 e2); (· obtain rfl : j = i := (by omega); rw [hp] at e1; rw [hq] at e2; cases e1; cases e2; exact h30)), hB, hF.sub _ rfl⟩)
    · obtain rfl : i = cs.length := by omega
      refine wp_exit (hK7 _ _ ?_)
      refine wp_rs fun K16 hK16 => ?_
      refine s_val hF (x_assign rfl) (by decide) fun a hF => ?_
      refine s_end (hK16 _ _ ?_)
      refine wp_ret (res_slot hF rfl rfl ⟨_, rfl, ⟨true, rfl, fun _ => ⟨hk1, fun j p q e1 e2 => hok j p q (List.getElem?_eq_some_iff.1 e1).1 e1 e2⟩, fun _ => rfl⟩, hB⟩)

theorem kd_same {W : World} {A : Nat → Prop} {c d : CT} {x y : C8} (hx : RC W A c x) (hy : RC W A d y) (h : sameP c.ess d.ess) : x.k = y.k := by
  rw [hx.kd, hy.kd]
  cases c <;> cases d <;> simp only [CT.ess, sameP, CT.kd] at h ⊢ <;> first | exact h.elim | exact h.1 | exact h

set_option maxRecDepth 100000 in
set_option maxHeartbeats 400000 in
theorem same81 : ∀ (N : Nat) (c d : CT) (x y : C8) (w0 : World), c.size < N → RC w0 (fun k => k < w0.heap.size) c x → RC w0 (fun k => k < w0.heap.size) d y → c.ess.fit → Calls Try.prog 76 #[tv x, tv y] w0 fun e w' => ∃ z, e = .returned z ∧ (∃ b, z = .bool b ∧ (b = true ↔ sameP c.ess d.ess)) ∧ Below w0.heap.size w0 w' := by
  intro N
  induction N with
  | zero => intro c d x y w0 h; omega
  | succ N ih =>
  intro c d x y w0 hN hx hy hfit
  have h3 := c.kids_le
  have hB := Below.refl w0.heap.size w0
  have sB := hB.size
  refine calls_fs 45 [(0, tv x), (1, tv y)] Try.func76 rfl rfl rfl rfl rfl fun a hF => ?_
  refine wp_rs fun K1 hK1 => ?_
  refine s_box (tc x) hF (by decide) rfl rfl fun w2 b2 a eb2 m2 B3 zb2 hF => ?_
  have sB3 := B3.size
  have hB := hB.trans (B3.mono hB.size)
  refine s_box (tc y) hF (by decide) rfl rfl fun w4 b3 a eb3 m3 B5 zb3 hF => ?_
  have sB5 := B5.size
  have hB := hB.trans (B5.mono hB.size)
  have m2 := m2.old B5
  refine s_val hF (x_assign rfl) (by decide) fun a hF => ?_
  refine s_end (hK1 _ _ ?_)
  refine wp_seq_k fun K2 hK2 => ?_
  rcases (show x.k ≠ y.k ∨ (x.k = 1 ∧ x.k = y.k) ∨ (x.k = 2 ∧ x.k = y.k) ∨ (x.k = 7 ∧ x.k = y.k) ∨ ((x.k ≠ 1 ∧ x.k ≠ 2 ∧ x.k ≠ 7) ∧ x.k = y.k) by omega) with hk | hk | hk | hk | hk
  · skip
    refine wp_rs fun K4 hK4 => ?_
    refine s_val hF (x_fa0 fa27_0 rfl) (by decide) fun a hF => ?_
    refine s_val hF (x_load rfl (m_load flat3 (m2.cell (j := 0) rfl))) (by decide) fun a hF => ?_
    refine s_val hF (x_fa0 fa27_0 rfl) (by decide) fun a hF => ?_
    refine s_val hF (x_load rfl (m_load flat3 (m3.cell (j := 0) rfl))) (by decide) fun a hF => ?_
    refine s_val hF (x_neq (b := true) (decide_eq_true (by omega)) rfl rfl) (by decide) fun a hF => ?_
    refine s_end (hK4 _ _ ?_)
    refine wp_if hF rfl ?_
    refine wp_rs fun K5 hK5 => ?_
    refine s_val hF (x_assign rfl) (by decide) fun a hF => ?_
    refine s_end (hK5 _ _ ?_)
    refine wp_ret (then_ret (res_slot hF rfl rfl ⟨_, rfl, ⟨false, rfl, fun h => absurd h (by decide), fun h => (hk (kd_same hx hy h)).elim⟩, hB⟩))
  · skip
    refine wp_rs fun K6 hK6 => ?_
    refine s_val hF (x_fa0 fa27_0 rfl) (by decide) fun a hF => ?_
    refine s_val hF (x_load rfl (m_load flat3 (m2.cell (j := 0) rfl))) (by decide) fun a hF => ?_
    refine s_val hF (x_fa0 fa27_0 rfl) (by decide) fun a hF => ?_
    refine s_val hF (x_load rfl (m_load flat3 (m3.cell (j := 0) rfl))) (by decide) fun a hF => ?_
    refine s_val hF (x_neq (b := false) (decide_eq_false (by omega)) rfl rfl) (by decide) fun a hF => ?_
    refine s_end (hK6 _ _ ?_)
    refine wp_if hF rfl ?_
    refine wp_skip (hK2 _ _ ?_)
    refine wp_seq_k fun K7 hK7 => ?_
    refine wp_rs fun K8 hK8 => ?_
    refine s_val hF (x_fa0 fa27_0 rfl) (by decide) fun a hF => ?_
    refine s_val hF (x_load rfl (m_load flat3 (m2.cell (j := 0) rfl))) (by decide) fun a hF => ?_
    refine s_end (hK8 _ _ ?_)
    refine wp_block ?_
    refine wp_rs fun K9 hK9 => ?_
    refine s_val hF (x_eql (b := true) (decide_eq_true (by omega)) rfl rfl) (by decide) fun a hF => ?_
    refine s_val hF (x_assign rfl) (by decide) fun a hF => ?_
    refine s_end (hK9 _ _ ?_)
    refine wp_if hF rfl ?_
    refine wp_rs fun K10 hK10 => ?_
    refine s_val hF (x_fa0 fa27_1 rfl) (by decide) fun a hF => ?_
    refine s_val hF (x_load rfl (m_load flat3 (m2.cell (j := 1) rfl))) (by decide) fun a hF => ?_
    refine s_val hF (x_fa0 fa27_1 rfl) (by decide) fun a hF => ?_
    refine s_val hF (x_load rfl (m_load flat3 (m3.cell (j := 1) rfl))) (by decide) fun a hF => ?_
    refine s_val hF (x_eql rfl rfl rfl) (by decide) fun a hF => ?_
    refine s_val hF (x_assign rfl) (by decide) fun a hF => ?_
    refine s_end (hK10 _ _ ?_)
    obtain ⟨n1, m1_, rfl⟩ := hx.var_of hk.1
    obtain ⟨n2, m2_, rfl⟩ := hy.var_of (by omega)
    have hn1 : x.n = n1 := hx.2.1
    have hn2 : y.n = n2 := hy.2.1
    refine wp_ret (inb_ret (then_ret (res_slot hF rfl rfl ⟨_, rfl, ⟨_, rfl, by rw [decide_eq_true_iff, hn1, hn2]; rfl⟩, hB⟩)))
  · skip
    refine wp_rs fun K11 hK11 => ?_
    refine s_val hF (x_fa0 fa27_0 rfl) (by decide) fun a hF => ?_
    refine s_val hF (x_load rfl (m_load flat3 (m2.cell (j := 0) rfl))) (by decide) fun a hF => ?_
    refine s_val hF (x_fa0 fa27_0 rfl) (by decide) fun a hF => ?_
    refine s_val hF (x_load rfl (m_load flat3 (m3.cell (j := 0) rfl))) (by decide) fun a hF => ?_
    refine s_val hF (x_neq (b := false) (decide_eq_false (by omega)) rfl rfl) (by decide) fun a hF => ?_
    refine s_end (hK11 _ _ ?_)
    refine wp_if hF rfl ?_
    refine wp_skip (hK2 _ _ ?_)
    refine wp_seq_k fun K12 hK12 => ?_
    refine wp_rs fun K13 hK13 => ?_
    refine s_val hF (x_fa0 fa27_0 rfl) (by decide) fun a hF => ?_
    refine s_val hF (x_load rfl (m_load flat3 (m2.cell (j := 0) rfl))) (by decide) fun a hF => ?_
    refine s_end (hK13 _ _ ?_)
    refine wp_block ?_
    refine wp_rs fun K14 hK14 => ?_
    refine s_val hF (x_eql (b := false) (decide_eq_false (by omega)) rfl rfl) (by decide) fun a hF => ?_
    refine s_val hF (x_assign rfl) (by decide) fun a hF => ?_
    refine s_end (hK14 _ _ ?_)
    refine wp_if hF rfl ?_
    refine wp_rs fun K15 hK15 => ?_
    refine s_val hF (x_eql (b := true) (decide_eq_true (by omega)) rfl rfl) (by decide) fun a hF => ?_
    refine s_val hF (x_assign rfl) (by decide) fun a hF => ?_
    refine s_end (hK15 _ _ ?_)
    refine wp_if hF rfl ?_
    refine wp_rs fun K16 hK16 => ?_
    refine s_val hF (x_fa0 fa27_3 rfl) (by decide) fun a hF => ?_
    refine s_val hF (x_load rfl (m_loadP (vs := [_, _, _]) wide24 m2 rfl)) (by decide) fun a hF => ?_
    refine s_val hF (x_fa0 fa27_3 rfl) (by decide) fun a hF => ?_
    refine s_val hF (x_load rfl (m_loadP (vs := [_, _, _]) wide24 m3 rfl)) (by decide) fun a hF => ?_
    obtain ⟨l, q1, rfl⟩ := hx.sort_of hk.1
    obtain ⟨l2, q2, rfl⟩ := hy.sort_of (by omega)
    have hl1 : RLn w0 _ x.l l := hx.2.1
    have hl2 : RLn w0 _ y.l l2 := hy.2.1
    refine s_callR (R := fun v w' => ∃ b, v = .bool b ∧ (b = true ↔ eqO (slO l) (slO l2))) [_, _] hF (enters_of Try.func115 (by kernel_rfl) rfl) rfl (by decide) ((Equal23 x.l y.l l l2 w4 (hl1.keep hB.size (fun k hk _ => hB.block k hk)).rl (hl2.keep hB.size (fun k hk _ => hB.block k hk)).rl).mono fun e w' ⟨v, h1, ⟨b, h2, h4⟩, h5⟩ => ⟨v, h1, ⟨b, h2, h4.iff (hl1.keep hB.size (fun k hk _ => hB.block k hk)).rl (hl2.keep hB.size (fun k hk _ => hB.block k hk)).rl⟩, h5⟩) ?_
    rintro _ w6 a ⟨b25, rfl, h25⟩ B7 hF
    have sB7 := B7.size
    have hB := hB.trans (B7.mono hB.size)
    have m2 := m2.old B7
    have m3 := m3.old B7
    refine s_val hF (x_assign rfl) (by decide) fun a hF => ?_
    refine s_end (hK16 _ _ ?_)
    refine wp_ret (inb_ret (then_ret (res_slot hF rfl rfl ⟨_, rfl, ⟨_, rfl, h25⟩, hB⟩)))
  · skip
    refine wp_rs fun K17 hK17 => ?_
    refine s_val hF (x_fa0 fa27_0 rfl) (by decide) fun a hF => ?_
    refine s_val hF (x_load rfl (m_load flat3 (m2.cell (j := 0) rfl))) (by decide) fun a hF => ?_
    refine s_val hF (x_fa0 fa27_0 rfl) (by decide) fun a hF => ?_
    refine s_val hF (x_load rfl (m_load flat3 (m3.cell (j := 0) rfl))) (by decide) fun a hF => ?_
    refine s_val hF (x_neq (b := false) (decide_eq_false (by omega)) rfl rfl) (by decide) fun a hF => ?_
    refine s_end (hK17 _ _ ?_)
    refine wp_if hF rfl ?_
    refine wp_skip (hK2 _ _ ?_)
    refine wp_seq_k fun K18 hK18 => ?_
    refine wp_rs fun K19 hK19 => ?_
    refine s_val hF (x_fa0 fa27_0 rfl) (by decide) fun a hF => ?_
    refine s_val hF (x_load rfl (m_load flat3 (m2.cell (j := 0) rfl))) (by decide) fun a hF => ?_
    refine s_end (hK19 _ _ ?_)
    refine wp_block ?_
    refine wp_rs fun K20 hK20 => ?_
    refine s_val hF (x_eql (b := false) (decide_eq_false (by omega)) rfl rfl) (by decide) fun a hF => ?_
    refine s_val hF (x_assign rfl) (by decide) fun a hF => ?_
    refine s_end (hK20 _ _ ?_)
    refine wp_if hF rfl ?_
    refine wp_rs fun K21 hK21 => ?_
    refine s_val hF (x_eql (b := false) (decide_eq_false (by omega)) rfl rfl) (by decide) fun a hF => ?_
    refine s_val hF (x_assign rfl) (by decide) fun a hF => ?_
    refine s_end (hK21 _ _ ?_)
    refine wp_if hF rfl ?_
    refine wp_rs fun K22 hK22 => ?_
    refine s_val hF (x_eql (b := true) (decide_eq_true (by omega)) rfl rfl) (by decide) fun a hF => ?_
    refine s_val hF (x_assign rfl) (by decide) fun a hF => ?_
    refine s_end (hK22 _ _ ?_)
    refine wp_if hF rfl ?_
    by_cases hst : x.s = y.s
    · obtain ⟨s1, ls1, m1_, rfl⟩ := hx.cst_of hk.1
      obtain ⟨s2, ls2, m2_, rfl⟩ := hy.cst_of (by omega)
      have hs1 : x.s = s1 := hx.2.1
      have hs2 : y.s = s2 := hy.2.1
      have hv1 : RVn w0 _ x.ls ls1 := hx.2.2.1
      have hv2 : RVn w0 _ y.ls ls2 := hy.2.2.1
      have hfl : ls1.length ≤ 9223372036854775807 := by have := hfit; simp only [CT.ess, PT.fit, List.length_map] at this; exact this
      refine wp_rs fun K24 hK24 => ?_
      refine s_val hF (x_fa0 fa27_2 rfl) (by decide) fun a hF => ?_
      refine s_val hF (x_load rfl (m_load flat9 (m2.cell (j := 2) rfl))) (by decide) fun a hF => ?_
      refine s_val hF (x_fa0 fa27_2 rfl) (by decide) fun a hF => ?_
      refine s_val hF (x_load rfl (m_load flat9 (m3.cell (j := 2) rfl))) (by decide) fun a hF => ?_
      refine s_val hF (x_eqS (b := true) (decide_eq_true hst) rfl rfl) (by decide) fun a hF => ?_
      refine s_val hF (x_move rfl) (by decide) fun a hF => ?_
      refine s_grd 33 hF rfl rfl rfl ?_
      refine s_val hF (x_fa0 fa27_4 rfl) (by decide) fun a hF => ?_
      refine s_grd 33 hF rfl rfl rfl ?_
      refine s_val hF (x_load rfl (m_load flat22 (m2.cell (j := 6) rfl))) (by decide) fun a hF => ?_
      refine s_grd 33 hF rfl rfl rfl ?_
      refine s_val hF (x_fa0 fa27_4 rfl) (by decide) fun a hF => ?_
      refine s_grd 33 hF rfl rfl rfl ?_
      refine s_val hF (x_load rfl (m_load flat22 (m3.cell (j := 6) rfl))) (by decide) fun a hF => ?_
      refine s_grd 33 hF rfl rfl rfl ?_
      refine s_callR (R := fun v w' => ∃ b, v = .bool b ∧ (b = true ↔ ls1.length = ls2.length ∧ ∀ (i : Nat) p q, ls1[i]? = some p → ls2[i]? = some q → eqO (slO p) (slO q))) [_, _, _] hF (enters_of Try.func116 (by kernel_rfl) rfl) rfl (by decide) (eqL116 ls1 ls2 _ _ w4 ((hv1.keep hB.size (fun k hk _ => hB.block k hk)).mono (fun k hk => by omega)) ((hv2.keep hB.size (fun k hk _ => hB.block k hk)).mono (fun k hk => by omega)) hfl) ?_
      rintro _ w8 a ⟨b38, rfl, h38⟩ B9 hF
      have sB9 := B9.size
      have hB := hB.trans (B9.mono hB.size)
      have m2 := m2.old B9
      have m3 := m3.old B9
      refine s_val hF (x_pick (b := true) rfl rfl) (by decide) fun a hF => ?_
      refine s_val hF (x_assign rfl) (by decide) fun a hF => ?_
      refine s_end (hK24 _ _ ?_)
      refine wp_ret (inb_ret (then_ret (res_slot hF rfl rfl ⟨_, rfl, ⟨_, rfl, by rw [h38]; simp only [CT.ess, sameP, eqOs, List.length_map]; exact ⟨fun h => ⟨by rw [← hs1, ← hs2]; exact hst, h.1, fun i o p e1 e2 => (by rw [List.getElem?_map] at e1 e2; obtain ⟨q1, e3, rfl⟩ := Option.map_eq_some_iff.1 e1; obtain ⟨q2, e4, rfl⟩ := Option.map_eq_some_iff.1 e2; exact h.2 i q1 q2 e3 e4)⟩, fun h => ⟨h.2.1, fun i p q e1 e2 => h.2.2 i (slO p) (slO q) (by rw [List.getElem?_map, e1]; rfl) (by rw [List.getElem?_map, e2]; rfl)⟩⟩⟩, hB⟩)))
    · obtain ⟨s1, ls1, m1_, rfl⟩ := hx.cst_of hk.1
      obtain ⟨s2, ls2, m2_, rfl⟩ := hy.cst_of (by omega)
      have hs1 : x.s = s1 := hx.2.1
      have hs2 : y.s = s2 := hy.2.1
      have hv1 : RVn w0 _ x.ls ls1 := hx.2.2.1
      have hv2 : RVn w0 _ y.ls ls2 := hy.2.2.1
      have hfl : ls1.length ≤ 9223372036854775807 := by have := hfit; simp only [CT.ess, PT.fit, List.length_map] at this; exact this
      refine wp_rs fun K25 hK25 => ?_
      refine s_val hF (x_fa0 fa27_2 rfl) (by decide) fun a hF => ?_
      refine s_val hF (x_load rfl (m_load flat9 (m2.cell (j := 2) rfl))) (by decide) fun a hF => ?_
      refine s_val hF (x_fa0 fa27_2 rfl) (by decide) fun a hF => ?_
      refine s_val hF (x_load rfl (m_load flat9 (m3.cell (j := 2) rfl))) (by decide) fun a hF => ?_
      refine s_val hF (x_eqS (b := false) (decide_eq_false hst) rfl rfl) (by decide) fun a hF => ?_
      refine s_val hF (x_move rfl) (by decide) fun a hF => ?_
      refine s_grdn 33 hF rfl rfl (by decide) fun a hF => ?_
      refine s_grdn 33 hF rfl rfl (by decide) fun a hF => ?_
      refine s_grdn 33 hF rfl rfl (by decide) fun a hF => ?_
      refine s_grdn 33 hF rfl rfl (by decide) fun a hF => ?_
      refine s_grdn 33 hF rfl rfl (by decide) fun a hF => ?_
      refine s_val hF (x_pick (b := false) rfl rfl) (by decide) fun a hF => ?_
      refine s_val hF (x_assign rfl) (by decide) fun a hF => ?_
      refine s_end (hK25 _ _ ?_)
      refine wp_ret (inb_ret (then_ret (res_slot hF rfl rfl ⟨_, rfl, ⟨false, rfl, fun h => absurd h (by decide), fun h => (hst (by rw [hs1, hs2]; exact h.1)).elim⟩, hB⟩)))
  · have hk : (x.k ≠ 1 ∧ x.k ≠ 2 ∧ x.k ≠ 7) ∧ x.k = y.k := hk
    refine wp_rs fun K26 hK26 => ?_
    refine s_val hF (x_fa0 fa27_0 rfl) (by decide) fun a hF => ?_
    refine s_val hF (x_load rfl (m_load flat3 (m2.cell (j := 0) rfl))) (by decide) fun a hF => ?_
    refine s_val hF (x_fa0 fa27_0 rfl) (by decide) fun a hF => ?_
    refine s_val hF (x_load rfl (m_load flat3 (m3.cell (j := 0) rfl))) (by decide) fun a hF => ?_
    refine s_val hF (x_neq (b := false) (decide_eq_false (by omega)) rfl rfl) (by decide) fun a hF => ?_
    refine s_end (hK26 _ _ ?_)
    refine wp_if hF rfl ?_
    refine wp_skip (hK2 _ _ ?_)
    refine wp_seq_k fun K27 hK27 => ?_
    refine wp_rs fun K28 hK28 => ?_
    refine s_val hF (x_fa0 fa27_0 rfl) (by decide) fun a hF => ?_
    refine s_val hF (x_load rfl (m_load flat3 (m2.cell (j := 0) rfl))) (by decide) fun a hF => ?_
    refine s_end (hK28 _ _ ?_)
    refine wp_block ?_
    refine wp_rs fun K29 hK29 => ?_
    refine s_val hF (x_eql (b := false) (decide_eq_false (by omega)) rfl rfl) (by decide) fun a hF => ?_
    refine s_val hF (x_assign rfl) (by decide) fun a hF => ?_
    refine s_end (hK29 _ _ ?_)
    refine wp_if hF rfl ?_
    refine wp_rs fun K30 hK30 => ?_
    refine s_val hF (x_eql (b := false) (decide_eq_false (by omega)) rfl rfl) (by decide) fun a hF => ?_
    refine s_val hF (x_assign rfl) (by decide) fun a hF => ?_
    refine s_end (hK30 _ _ ?_)
    refine wp_if hF rfl ?_
    refine wp_rs fun K31 hK31 => ?_
    refine s_val hF (x_eql (b := false) (decide_eq_false (by omega)) rfl rfl) (by decide) fun a hF => ?_
    refine s_val hF (x_assign rfl) (by decide) fun a hF => ?_
    refine s_end (hK31 _ _ ?_)
    refine wp_if hF rfl ?_
    refine wp_skip (hK27 _ _ ?_)
    refine dk2_seq (w4.heap.size) (w4.heap.size) (ops := regOps Try.f76 10) (N := 6) (by kernel_rfl) wide_orders (by kernel_rfl) fun w10 hw10 B11 hS K32 hK32 => ?_
    have zw10 : w10.heap.size = w4.heap.size := by rw [hw10]
    have sB11 := B11.size
    have hB := hB.trans (B11.mono hB.size)
    have m2 := m2.old B11
    have m3 := m3.old B11
    have m2_d := m2
    have m3_d := m3
    have hB_d := hB
    refine d_val 0 40 (op := (Go.Op.load 27 (Go.Operand.tmp 2))) hF hS (by kernel_rfl) (fun W hW => x_ldW wide27 (m2_d.k2 hW (by omega)) rfl rfl) (by kernel_rfl) (by decide) fun a hF => ?_
    refine d_val 2 42 (op := (Go.Op.load 27 (Go.Operand.tmp 3))) hF hS (by kernel_rfl) (fun W hW => x_ldW wide27 (m3_d.k2 hW (by omega)) rfl rfl) (by kernel_rfl) (by decide) fun a hF => ?_
    refine d_one 1 (some 41) (Go.Op.call (Go.Call.mk (Go.Callee.value (Go.Operand.func 89)) #[(Go.Operand.tmp 40)] #[27])) (by kernel_rfl) (by kernel_rfl) fun ty pos af => ?_
    refine s_callR (R := fun v w' => RK w0 (fun k => k < w0.heap.size) v c.kids) [_] hF (enters_of Try.func89 (by kernel_rfl) rfl) rfl (by decide) (kidsOf101 c x (fun k => k < w0.heap.size) w0 w10 hx) ?_
    rintro v41 w12 a hv41 B13 hF
    have sB13 := B13.size
    have hB := hB.trans (B13.mono hB.size)
    have m2 := m2.old B13
    have m3 := m3.old B13
    have hS := hS.below B13
    refine s_end ⟨hS, ?_⟩
    refine d_one 3 (some 43) (Go.Op.call (Go.Call.mk (Go.Callee.value (Go.Operand.func 89)) #[(Go.Operand.tmp 42)] #[27])) (by kernel_rfl) (by kernel_rfl) fun ty pos af => ?_
    refine s_callR (R := fun v w' => RK w0 (fun k => k < w0.heap.size) v d.kids) [_] hF (enters_of Try.func89 (by kernel_rfl) rfl) rfl (by decide) (kidsOf101 d y (fun k => k < w0.heap.size) w0 w12 hy) ?_
    rintro v43 w14 a hv43 B15 hF
    have sB15 := B15.size
    have hB := hB.trans (B15.mono hB.size)
    have m2 := m2.old B15
    have m3 := m3.old B15
    have hS := hS.below B15
    refine s_end ⟨hS, ?_⟩
    refine d_one 4 (some 44) (Go.Op.call (Go.Call.mk (Go.Callee.value (Go.Operand.func 117)) #[(Go.Operand.tmp 41), (Go.Operand.tmp 43), (Go.Operand.func 76)] #[25, 25, 36])) (by kernel_rfl) (by kernel_rfl) fun ty pos af => ?_
    refine s_callR (R := fun v w' => ∃ b, v = .bool b ∧ (b = true ↔ c.kids.length = d.kids.length ∧ ∀ (i : Nat) p q, c.kids[i]? = some p → d.kids[i]? = some q → sameP p.ess q.ess)) [_, _, _] hF (enters_of Try.func117 (by kernel_rfl) rfl) rfl (by decide) (eqT117 c.kids d.kids _ _ w14 ((hv41.keep hB.size (fun k hk _ => hB.block k hk)).mono (fun k hk => by omega)) ((hv43.keep hB.size (fun k hk _ => hB.block k hk)).mono (fun k hk => by omega)) (by omega) (fun p q x y w i hp hq hx2 hy2 => ih p q x y w (by have := CT.kid_size hp; omega) hx2 hy2 (PT.fit_kid hfit hp))) ?_
    rintro _ w16 a ⟨b44, rfl, h44⟩ B17 hF
    have sB17 := B17.size
    have hB := hB.trans (B17.mono hB.size)
    have m2 := m2.old B17
    have m3 := m3.old B17
    have hS := hS.below B17
    refine s_end ⟨hS, ?_⟩
    refine d_val 5 4 (op := (Go.Op.assign (Go.Operand.tmp 44))) hF hS (by kernel_rfl) (fun W hW => x_assign rfl) (by kernel_rfl) (by decide) fun a hF => ?_
    refine d_end (by kernel_rfl) (hK32 _ _ ?_)
    refine wp_ret (res_slot hF rfl rfl ⟨_, rfl, ⟨_, rfl, by rw [h44, same_rest hx hy hk.2 hk.1]⟩, hB⟩)

set_option maxRecDepth 100000 in
set_option maxHeartbeats 400000 in
theorem Same40 (c d : CT) (x y : C8) (w0 : World) (hx : RC w0 (fun k => k < w0.heap.size) c x) (hy : RC w0 (fun k => k < w0.heap.size) d y) (hfit : c.ess.fit) : Calls Try.prog 39 #[tv x, tv y] w0 fun e w' => ∃ z, e = .returned z ∧ (∃ b, z = .bool b ∧ (b = true ↔ c.ok ∧ d.ok ∧ sameP c.ess d.ess)) ∧ Below w0.heap.size w0 w' := by
  have hB := Below.refl w0.heap.size w0
  have sB := hB.size
  refine calls_fs 18 [(0, tv x), (1, tv y)] Try.func39 rfl rfl rfl rfl rfl fun a hF => ?_
  refine wp_rs fun K1 hK1 => ?_
  refine s_box (tc x) hF (by decide) rfl rfl fun w2 b2 a eb2 m2 B3 zb2 hF => ?_
  have sB3 := B3.size
  have hB := hB.trans (B3.mono hB.size)
  refine s_box (tc y) hF (by decide) rfl rfl fun w4 b3 a eb3 m3 B5 zb3 hF => ?_
  have sB5 := B5.size
  have hB := hB.trans (B5.mono hB.size)
  have m2 := m2.old B5
  refine s_val hF (x_assign rfl) (by decide) fun a hF => ?_
  refine s_end (hK1 _ _ ?_)
  rcases (show ¬ c.ok ∨ (c.ok ∧ ¬ d.ok) ∨ (c.ok ∧ d.ok) by by_cases h : c.ok <;> by_cases h2 : d.ok <;> simp [h, h2]) with hk1 | ⟨hk1, hk2⟩ | ⟨hk1, hk2⟩
  · skip
    refine wp_rs fun K3 hK3 => ?_
    refine s_val hF (x_ldW wide27 m2 rfl rfl) (by decide) fun a hF => ?_
    refine s_callB [_] hF (enters_of Try.func55 (by kernel_rfl) rfl) rfl (by decide) ((isGreat66 c x w4 (hx.bel hB)).mono fun e w' h => ⟨by rw [h.1, decide_eq_true hk1], h.2⟩) fun w6 a B7 hF => ?_
    have sB7 := B7.size
    have hB := hB.trans (B7.mono hB.size)
    have m2 := m2.old B7
    have m3 := m3.old B7
    refine s_val hF (x_not rfl) (by decide) fun a hF => ?_
    refine s_val hF (x_move rfl) (by decide) fun a hF => ?_
    refine s_grdn 8 hF rfl rfl (by decide) fun a hF => ?_
    refine s_grdn 8 hF rfl rfl (by decide) fun a hF => ?_
    refine s_grdn 8 hF rfl rfl (by decide) fun a hF => ?_
    refine s_val hF (x_pick (b := false) rfl rfl) (by decide) fun a hF => ?_
    refine s_val hF (x_move rfl) (by decide) fun a hF => ?_
    refine s_grdn 13 hF rfl rfl (by decide) fun a hF => ?_
    refine s_grdn 13 hF rfl rfl (by decide) fun a hF => ?_
    refine s_grdn 13 hF rfl rfl (by decide) fun a hF => ?_
    refine s_val hF (x_pick (b := false) rfl rfl) (by decide) fun a hF => ?_
    refine s_val hF (x_assign rfl) (by decide) fun a hF => ?_
    refine s_end (hK3 _ _ ?_)
    refine wp_ret (res_slot hF rfl rfl ⟨_, rfl, ⟨false, rfl, fun h => absurd h (by decide), fun h => (hk1 h.1).elim⟩, hB⟩)
  · skip
    refine wp_rs fun K4 hK4 => ?_
    refine s_val hF (x_ldW wide27 m2 rfl rfl) (by decide) fun a hF => ?_
    refine s_callB [_] hF (enters_of Try.func55 (by kernel_rfl) rfl) rfl (by decide) ((isGreat66 c x w4 (hx.bel hB)).mono fun e w' h => ⟨by rw [h.1, decide_eq_false (fun h => h hk1)], h.2⟩) fun w8 a B9 hF => ?_
    have sB9 := B9.size
    have hB := hB.trans (B9.mono hB.size)
    have m2 := m2.old B9
    have m3 := m3.old B9
    refine s_val hF (x_not rfl) (by decide) fun a hF => ?_
    refine s_val hF (x_move rfl) (by decide) fun a hF => ?_
    refine s_grd 8 hF rfl rfl rfl ?_
    refine s_val hF (x_ldW wide27 m3 rfl rfl) (by decide) fun a hF => ?_
    refine s_grd 8 hF rfl rfl rfl ?_
    refine s_callB [_] hF (enters_of Try.func55 (by kernel_rfl) rfl) rfl (by decide) ((isGreat66 d y w8 (hy.bel hB)).mono fun e w' h => ⟨by rw [h.1, decide_eq_true hk2], h.2⟩) fun w10 a B11 hF => ?_
    have sB11 := B11.size
    have hB := hB.trans (B11.mono hB.size)
    have m2 := m2.old B11
    have m3 := m3.old B11
    refine s_grd 8 hF rfl rfl rfl ?_
    refine s_val hF (x_not rfl) (by decide) fun a hF => ?_
    refine s_val hF (x_pick (b := true) rfl rfl) (by decide) fun a hF => ?_
    refine s_val hF (x_move rfl) (by decide) fun a hF => ?_
    refine s_grdn 13 hF rfl rfl (by decide) fun a hF => ?_
    refine s_grdn 13 hF rfl rfl (by decide) fun a hF => ?_
    refine s_grdn 13 hF rfl rfl (by decide) fun a hF => ?_
    refine s_val hF (x_pick (b := false) rfl rfl) (by decide) fun a hF => ?_
    refine s_val hF (x_assign rfl) (by decide) fun a hF => ?_
    refine s_end (hK4 _ _ ?_)
    refine wp_ret (res_slot hF rfl rfl ⟨_, rfl, ⟨false, rfl, fun h => absurd h (by decide), fun h => (hk2 h.2.1).elim⟩, hB⟩)
  · skip
    refine wp_rs fun K5 hK5 => ?_
    refine s_val hF (x_ldW wide27 m2 rfl rfl) (by decide) fun a hF => ?_
    refine s_callB [_] hF (enters_of Try.func55 (by kernel_rfl) rfl) rfl (by decide) ((isGreat66 c x w4 (hx.bel hB)).mono fun e w' h => ⟨by rw [h.1, decide_eq_false (fun h => h hk1)], h.2⟩) fun w12 a B13 hF => ?_
    have sB13 := B13.size
    have hB := hB.trans (B13.mono hB.size)
    have m2 := m2.old B13
    have m3 := m3.old B13
    refine s_val hF (x_not rfl) (by decide) fun a hF => ?_
    refine s_val hF (x_move rfl) (by decide) fun a hF => ?_
    refine s_grd 8 hF rfl rfl rfl ?_
    refine s_val hF (x_ldW wide27 m3 rfl rfl) (by decide) fun a hF => ?_
    refine s_grd 8 hF rfl rfl rfl ?_
    refine s_callB [_] hF (enters_of Try.func55 (by kernel_rfl) rfl) rfl (by decide) ((isGreat66 d y w12 (hy.bel hB)).mono fun e w' h => ⟨by rw [h.1, decide_eq_false (fun h => h hk2)], h.2⟩) fun w14 a B15 hF => ?_
    have sB15 := B15.size
    have hB := hB.trans (B15.mono hB.size)
    have m2 := m2.old B15
    have m3 := m3.old B15
    refine s_grd 8 hF rfl rfl rfl ?_
    refine s_val hF (x_not rfl) (by decide) fun a hF => ?_
    refine s_val hF (x_pick (b := true) rfl rfl) (by decide) fun a hF => ?_
    refine s_val hF (x_move rfl) (by decide) fun a hF => ?_
    refine s_grd 13 hF rfl rfl rfl ?_
    refine s_val hF (x_ldW wide27 m2 rfl rfl) (by decide) fun a hF => ?_
    refine s_grd 13 hF rfl rfl rfl ?_
    refine s_val hF (x_ldW wide27 m3 rfl rfl) (by decide) fun a hF => ?_
    refine s_grd 13 hF rfl rfl rfl ?_
    refine s_callR (R := fun v w' => ∃ b, v = .bool b ∧ (b = true ↔ sameP c.ess d.ess)) [_, _] hF (enters_of Try.func76 (by kernel_rfl) rfl) rfl (by decide) (same81 (c.size + 1) c d x y w14 (by omega) (hx.bel hB) (hy.bel hB) hfit) ?_
    rintro _ w16 a ⟨b16, rfl, h16⟩ B17 hF
    have sB17 := B17.size
    have hB := hB.trans (B17.mono hB.size)
    have m2 := m2.old B17
    have m3 := m3.old B17
    refine s_val hF (x_pick (b := true) rfl rfl) (by decide) fun a hF => ?_
    refine s_val hF (x_assign rfl) (by decide) fun a hF => ?_
    refine s_end (hK5 _ _ ?_)
    refine wp_ret (res_slot hF rfl rfl ⟨_, rfl, ⟨_, rfl, by rw [h16]; exact ⟨fun h => ⟨hk1, hk2, h⟩, fun h => h.2.2⟩⟩, hB⟩)
end Go.Proofs.Ytaclncmkdpjnlaa

namespace Go.Proofs.Ytaclncmkdpjnlaa
open Go.RowKit Go.Shelf
set_option linter.unusedVariables false
set_option linter.unusedSimpArgs false
theorem okL_snd {W : World} {x : C3} {l : Lv} (h : RL W x l) (hc : (chk 32 1048576 6 1 100 l).1 = 0) : sndL l := by
  obtain ⟨s, h1, h2, h3, h4⟩ := chk_sl (D := 32) (top := 1048576) (vars := 6) h 1 100 hc
  refine rs_snd h h1 ⟨by omega, by omega, ?_⟩
  have key : ∀ s : SL, s.nums 1048576 6 → s.nums 1099511627776 1001 := by
    intro s
    induction s with
    | num n => simp only [SL.nums]; omega
    | var n => simp only [SL.nums]; omega
    | succ n a ih => simp only [SL.nums]; exact fun ⟨a1, a2, a3⟩ => ⟨a1, by omega, ih a3⟩
    | mx a b ha hb => simp only [SL.nums]; exact fun ⟨a1, a2⟩ => ⟨ha a1, hb a2⟩
  exact key s h2
theorem eqO_self {W : World} {x : C3} {l : Lv} (h : RL W x l) (hc : (chk 32 1048576 6 1 100 l).1 = 0) : eqO (slO l) (slO l) := by
  obtain ⟨s, h1, h2⟩ := sound_sl h (okL_snd h hc)
  rw [slO_of h h1 h2]
  exact ⟨rfl, rfl⟩
theorem same_self {W : World} {A : Nat → Prop} : ∀ {c : CT} {x : C8}, RC W A c x → c.okV 6 → sameP c.ess c.ess
  | .var n m, x, h, ho => rfl
  | .sort l m, x, h, ho => eqO_self h.2.1.rl ho
  | .cst s ls m, x, h, ho => by
    obtain ⟨xs, g1, g2, g3⟩ := h.2.2.1
    refine ⟨rfl, rfl, fun i o p e1 e2 => ?_⟩
    rw [e1] at e2
    cases e2
    rw [List.getElem?_map] at e1
    obtain ⟨l, e3, rfl⟩ := Option.map_eq_some_iff.1 e1
    have hi := (List.getElem?_eq_some_iff.1 e3).1
    exact eqO_self (g3 i (xs[i]'(by omega)) l (List.getElem?_eq_getElem (by omega)) e3).rl (ho.2 l (List.mem_of_getElem? e3))
  | .odd k m, x, h, ho => ho.elim
  | .two k a b m, x, ⟨_, _, ⟨y, z, cs, _, ha, hb⟩, _⟩, ho => ⟨rfl, same_self ha ho.1, same_self hb ho.2⟩
  | .lt a b c m, x, ⟨_, ⟨y, z, u, cs, _, ha, hb, hc⟩, _⟩, ho => ⟨same_self ha ho.1, same_self hb ho.2.1, same_self hc ho.2.2⟩
section
variable {P : Program} {n : Nat} {l : List (Nat × Value)} {w : World}
end
end Go.Proofs.Ytaclncmkdpjnlaa

namespace Go.Proofs.Ytaclncmkdpjnlaa
open Go.RowKit Go.Shelf
set_option linter.unusedVariables false
set_option linter.unusedSimpArgs false

theorem mN9 {c : CT} (h : c.ok) : c.mN = c.size := if_pos h
theorem okV_bd {vars : Int} : ∀ (c : CT), c.okV vars → c.ess.bd 1048576
  | .var n m, h => h
  | .two k p q m, h => ⟨okV_bd p h.1, okV_bd q h.2⟩
  | .lt p q r m, h => ⟨okV_bd p h.1, okV_bd q h.2.1, okV_bd r h.2.2⟩
  | .sort .., h => trivial
  | .cst .., h => trivial
  | .odd .., h => trivial
theorem sameP_sh (b : Int) : ∀ (p : PT) (d : Int), sameP p p → sameP (p.sh b d) (p.sh b d)
  | .var n, d, h => rfl
  | .two k p q, d, h => ⟨rfl, sameP_sh b p d h.2.1, sameP_sh b q _ h.2.2⟩
  | .lt p q r, d, h => ⟨sameP_sh b p d h.1, sameP_sh b q d h.2.1, sameP_sh b r _ h.2.2⟩
  | .sort o, d, h => h
  | .cst s os, d, h => h
  | .odd k, d, h => rfl
theorem sh_fit (b : Int) : ∀ (p : PT) (d : Int), p.fit → (p.sh b d).fit
  | .var n, d, h => trivial
  | .two k p q, d, h => ⟨sh_fit b p d h.1, sh_fit b q _ h.2⟩
  | .lt p q r, d, h => ⟨sh_fit b p d h.1, sh_fit b q d h.2.1, sh_fit b r _ h.2.2⟩
  | .sort o, d, h => trivial
  | .cst s os, d, h => h
  | .odd k, d, h => trivial
end Go.Proofs.Ytaclncmkdpjnlaa
