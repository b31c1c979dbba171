/- raiseVar, raise, slices.Max, slices.Equal, SameInts, settle. -/
import Derived.Test.YtgpciphjhnabcaaLevC
namespace Go.Proofs.Ytgpciphjhnabcaa
open Go.RowKit Go.Shelf
set_option linter.unusedVariables false
set_option linter.unusedSimpArgs false

set_option maxRecDepth 100000 in
set_option maxHeartbeats 1600000 in
theorem raiseVar48 (base g o : Nat) (v : Value) (c : Int) (ks : List Int) (i : Nat) (k : Int) (w1 : World) (hA : FA 126 base w1 g o v c ks) (hi : i ≤ 2000) (hks : ks.length ≤ 3000) :
    Calls Try.prog 126 #[.pointer (some ⟨g, 0, none⟩), .int .i64 (i : Int), .int .i64 k] w1 fun e w' => ∃ u, e = .returned u ∧ (u = .tuple #[] ∧ ∃ v' o', FA 126 base w' g o' v' c (up ks i k) ∧ (o' = o ∨ w1.heap.size ≤ o')) ∧ Ktw g o w1 w' := by
  have hK := Ktw.refl g o w1
  refine calls_fs 37 [(0, .pointer (some ⟨g, 0, none⟩)), (1, .int .i64 (i : Int)), (2, .int .i64 k)] Try.func126 rfl rfl rfl rfl rfl fun a hF => ?_
  refine wp_seq_k fun K1 hK1 => ?_
  refine wp_block ?_
  refine wp_up (i + 1 - ks.length) (fun j a w => ∃ v' o', FA 126 base w g o' v' c (ks ++ List.replicate j (-1)) ∧ (o' = o ∨ w1.heap.size ≤ o') ∧ Ktw g o w1 w ∧ Fs 37 a [(0, .pointer (some ⟨g, 0, none⟩)), (1, .int .i64 (i : Int)), (2, .int .i64 k)]) ⟨v, o, by simpa using hA, .inl rfl, hK, hF.sub _ rfl⟩ ?_
  clear hF hK hA
  rintro j a w hj ⟨v2, o2, hA, ho2, hK, hF⟩ K' hK'
  have sK := hK.size
  obtain ⟨L, hL⟩ : ∃ L, L = ks ++ List.replicate j (-1) := ⟨_, rfl⟩
  rw [← hL] at hA
  have hLl : L.length = ks.length + j := by rw [hL]; simp
  obtain ⟨av, cv, rfl, hcv⟩ := hA.form
  have mg := hA.blk
  have hO := hA.own
  have hat := hA.at'
  have hne := hA.ne
  have hlo := hA.lo
  have hgl := mg.lt
  refine wp_seq_k fun K2 hK2 => ?_
  refine wp_rs fun K3 hK3 => ?_
  refine s_val hF (x_move rfl) (by decide) fun a hF => ?_
  refine s_val hF (x_nil rfl) (by decide) fun a hF => ?_
  refine s_val hF (x_fa0 fa59_1 rfl) (by decide) fun a hF => ?_
  refine s_val hF (x_load rfl (m_load flat29 (mg.cell (j := 1) rfl))) (by decide) fun a hF => ?_
  refine s_val hF (x_len Try.underlying83 rfl) (by decide) fun a hF => ?_
  refine s_val hF (x_move rfl) (by decide) fun a hF => ?_
  refine s_val hF (x_leq (b := decide (L.length ≤ i)) (decide_eq_decide.2 (by omega)) rfl rfl) (by decide) fun a hF => ?_
  refine s_end (hK3 _ _ ?_)
  refine wp_iff hF rfl (fun hc12 => ?_) (fun hc12 => ?_)
  · refine wp_skip (hK2 _ _ ?_)
    refine wp_block ?_
    refine wp_region_lit ?_
    refine s_val hF (x_move rfl) (by decide) fun a hF => ?_
    refine s_val hF (x_move rfl) (by decide) fun a hF => ?_
    refine s_val hF (x_nil rfl) (by decide) fun a hF => ?_
    refine s_val hF (x_fa0 fa59_1 rfl) (by decide) fun a hF => ?_
    refine s_val hF (x_load rfl (m_load flat29 (mg.cell (j := 1) rfl))) (by decide) fun a hF => ?_
    refine s_litG [.int .i64 (-1)] el29 hF (by decide) rfl (by simp [Value.cells]) rfl (by decide) (by decide) fun w2 bl a ebl ml B3 zbl hF => ?_
    have sB3 := B3.size
    have hK := hK.below B3
    have mg := mg.old B3
    have hO := own_below hO B3
    have ml : Blk w2 bl 3 [.int .i64 (-1)] := by simpa [Value.cells] using ml
    refine s_app1 (o := o2) el29 hF (by decide) rfl rfl hO ml rfl (by simp [Value.oneCell']) hat (by omega) (by omega) (by decide) (by omega) fun v3 w4 a o3 hOn hOatn how hsrc k5 hkeep hF => ?_
    have sk5 := k5.size
    have hK := hK.trans k5 (by omega)
    have mg := (hkeep _ mg.lt hne).trans mg
    have ml := ml.k2 k5 (by omega)
    have hO := hOn
    have hO_at := hOatn
    have hneg : v3.ownBlock ≠ some g := fun h => by rcases hsrc g h with h | h; exact hne h; omega
    refine s_val hF (x_nil rfl) (by decide) fun a hF => ?_
    refine s_val hF (x_fa0 fa59_1 rfl) (by decide) fun a hF => ?_
    refine s_put hF rfl rfl flat29 mg (by simp) (Rd.own hO).one fun w6 mg o7 => ?_
    have so7 := o7.size
    have hK := hK.only o7 (by omega)
    have hO := own_only hO o7 (hneg)
    have ml := ml.only o7 (by omega)
    have hL2 : ks ++ List.replicate (j + 1) (-1) = L ++ [-1] := by rw [hL, List.append_assoc, ← List.replicate_succ']
    refine s_end (hK' _ _ (by omega) ⟨v3, o3, ⟨mg, by rw [hL2, ints_app]; simpa using hO, hO_at, hneg, by omega⟩, by omega, hK, hF.sub _ rfl⟩)
  · have hjj : j = i + 1 - ks.length := by omega
    obtain ⟨o4, cap, cur, hve, hb4, mo, hc1, hc2, hc3, hc4⟩ := own_blk hO (by omega)
    cases hve
    obtain rfl : o4 = o2 := hat _ rfl
    have hgo : g ≠ o4 := fun e => hne (by rw [e]; rfl)
    rw [Nat.mul_one] at hc3 hc4
    have hcur : cur[i]? = some (.int .i64 (gt L i)) := by
      have : (cur.take L.length)[i]? = some (.int .i64 (gt L i)) := by rw [hc4, List.getElem?_map, List.getElem?_eq_getElem (by omega), gt_lt (by omega)]; rfl
      rwa [List.getElem?_take, if_pos (by omega)] at this
    have hLp : L = padL ks (i + 1) := by rw [hL, hjj]; rfl
    have mol := mo.lt
    refine wp_exit (hK1 _ _ ?_)
    refine dk2_one (o4) (o4) (ops := regOps Try.f126 2) (N := 16) (by kernel_rfl) wide_orders (by kernel_rfl) fun w8 hw8 B9 hS K4 hK4 => ?_
    have zw8 : w8.heap.size = w.heap.size := by rw [hw8]
    have sB9 := B9.size
    have hK := hK.below B9
    have mg := mg.old B9
    have mo := mo.old B9
    have mg_d := mg
    have mo_d := mo
    have hK_d := hK
    refine d_val 0 22 (op := (Go.Op.move (Go.Operand.tmp 0))) hF hS (by kernel_rfl) (fun W hW => x_move rfl) (by kernel_rfl) (by decide) fun a hF => ?_
    refine d_val 1 23 (op := (Go.Op.nilCheck (Go.Operand.tmp 22))) hF hS (by kernel_rfl) (fun W hW => x_nil rfl) (by kernel_rfl) (by decide) fun a hF => ?_
    refine d_val 2 24 (op := (Go.Op.fieldAddr 126 (Go.Operand.tmp 23) 1)) hF hS (by kernel_rfl) (fun W hW => x_fa0 fa59_1 rfl) (by kernel_rfl) (by decide) fun a hF => ?_
    refine d_val 3 25 (op := (Go.Op.load 83 (Go.Operand.tmp 24))) hF hS (by kernel_rfl) (fun W hW => x_load rfl (m_load flat29 ((mg_d.k2 hW (by omega)).cell (j := 1) rfl))) (by kernel_rfl) (by decide) fun a hF => ?_
    refine d_val 4 26 (op := (Go.Op.move (Go.Operand.tmp 1))) hF hS (by kernel_rfl) (fun W hW => x_move rfl) (by kernel_rfl) (by decide) fun a hF => ?_
    refine d_val 5 27 (op := (Go.Op.move (Go.Operand.tmp 0))) hF hS (by kernel_rfl) (fun W hW => x_move rfl) (by kernel_rfl) (by decide) fun a hF => ?_
    refine d_val 6 28 (op := (Go.Op.nilCheck (Go.Operand.tmp 27))) hF hS (by kernel_rfl) (fun W hW => x_nil rfl) (by kernel_rfl) (by decide) fun a hF => ?_
    refine d_val 7 29 (op := (Go.Op.fieldAddr 126 (Go.Operand.tmp 28) 1)) hF hS (by kernel_rfl) (fun W hW => x_fa0 fa59_1 rfl) (by kernel_rfl) (by decide) fun a hF => ?_
    refine d_val 8 30 (op := (Go.Op.load 83 (Go.Operand.tmp 29))) hF hS (by kernel_rfl) (fun W hW => x_load rfl (m_load flat29 ((mg_d.k2 hW (by omega)).cell (j := 1) rfl))) (by kernel_rfl) (by decide) fun a hF => ?_
    refine d_val 9 31 (op := (Go.Op.move (Go.Operand.tmp 1))) hF hS (by kernel_rfl) (fun W hW => x_move rfl) (by kernel_rfl) (by decide) fun a hF => ?_
    refine d_val 10 32 (op := (Go.Op.indexAddr 83 (Go.Operand.tmp 30) (Go.Operand.tmp 31))) hF hS (by kernel_rfl) (fun W hW => x_ixa rfl rfl (m_ixs0 i Try.underlying83 el29.size rfl (by omega))) (by kernel_rfl) (by decide) fun a hF => ?_
    refine d_val 12 34 (op := (Go.Op.move (Go.Operand.tmp 2))) hF hS (by kernel_rfl) (fun W hW => x_move rfl) (by kernel_rfl) (by decide) fun a hF => ?_
    refine d_one 11 (some 33) (Go.Op.load 3 (Go.Operand.tmp 32)) (by kernel_rfl) (by kernel_rfl) fun ty pos af => ?_
    refine s_val hF (x_load rfl (m_load flat3 (mo.cell (j := i) hcur))) (by decide) fun a hF => ?_
    refine s_end ⟨hS, ?_⟩
    refine d_val 13 35 (op := (Go.Op.call (Go.Call.mk (Go.Callee.builtin Go.Builtin.max) #[(Go.Operand.tmp 33), (Go.Operand.tmp 34)] #[3, 3]))) hF hS (by kernel_rfl) (fun W hW => x_imax rfl rfl) (by kernel_rfl) (by decide) fun a hF => ?_
    refine d_val 14 36 (op := (Go.Op.indexAddr 83 (Go.Operand.tmp 25) (Go.Operand.tmp 26))) hF hS (by kernel_rfl) (fun W hW => x_ixa rfl rfl (m_ixs0 i Try.underlying83 el29.size rfl (by omega))) (by kernel_rfl) (by decide) fun a hF => ?_
    refine d_one 15 none (Go.Op.store 3 (Go.Operand.tmp 36) (Go.Operand.tmp 35)) (by kernel_rfl) (by kernel_rfl) fun ty pos af => ?_
    refine s_put hF rfl rfl flat3 mo (by omega) rfl fun wz mo oz => ?_
    have hK := hK.only oz (by omega)
    have mg := mg.only oz (by omega)
    have hS := hS.only oz (by omega)
    have szz := oz.size
    clear hO
    refine s_end ⟨hS, ?_⟩
    refine d_end (by kernel_rfl) (hK4 _ _ ?_)
    show bodyPost Try.prog Try.f126 (_) .normal a wz
    refine post_normal (res_none hF rfl ⟨_, rfl, ⟨rfl, .slice (some ⟨o4, 0, none⟩) L.length cv, o4, ⟨mg, ?_, fun j h => (Option.some.inj h).symm, fun h => hgo (Option.some.inj h).symm, by omega⟩, ho2⟩, hK⟩)
    have hup : up ks i k = L.set i (max (gt L i) k) := by rw [up, hLp, gt_pad]
    have hul : (up ks i k).length = L.length := by rw [hup, List.length_set]
    have := own_of (k := 1) (n := L.length) (xs := ints (up ks i k)) hb4 mo hc1 hc2 (by rw [List.length_set]; omega) (by rw [Nat.mul_one, List.take_set, hc4, hup, ints_set])
    rw [hul]
    exact this

set_option maxRecDepth 100000 in
set_option maxHeartbeats 1600000 in
theorem raise59 (w0 : World) (g : Nat) : ∀ (s : SL) (x : C3), RS w0 s x → s.nums 1099511627776 1001 → ∀ (n : Int) (o : Nat) (v : Value) (c : Int) (ks : List Int) (w1 : World), 0 ≤ n → n ≤ 1099511627776 → 0 ≤ c → c ≤ 1099511627776 → ks.length ≤ 1001 → Below w0.heap.size w0 w1 → FA 126 w0.heap.size w1 g o v c ks →
    Calls Try.prog 139 #[.pointer (some ⟨g, 0, none⟩), lv x, .int .i64 n] w1 fun e w' => ∃ u, e = .returned u ∧ (u = .tuple #[] ∧ ∃ v' o', FA 126 w0.heap.size w' g o' v' (rc s n c) (rk s n ks) ∧ (o' = o ∨ w1.heap.size ≤ o')) ∧ Ktw g o w1 w' := by
  intro s
  induction s with
  | num p =>
    rintro ⟨k, m, vx⟩ hS0 hnm n o v c ks w1 hn0 hn1 hc0 hc1 hkl hB hA
    have hK := Ktw.refl g o w1
    have sB := hB.size
    have hlo := hA.lo
    have hgl := hA.lt
    obtain ⟨h1, h2, h3⟩ := hS0
    simp only at h1 h2
    subst h1 h2
    have hp : p ≤ 1099511627776 := hnm
    have mg := hA.blk
    have hO := hA.own
    have hat := hA.at'
    have hne := hA.ne
    refine calls_fs 57 [(0, .pointer (some ⟨g, 0, none⟩)), (1, .agg [.int .i64 1, .int .i64 (p : Int), vx].toArray), (2, .int .i64 n)] Try.func139 rfl rfl rfl rfl rfl fun a hF => ?_
    refine wp_rs fun K1 hK1 => ?_
    refine s_box ([.int .i64 1, .int .i64 (p : Int), vx]) hF (by decide) rfl rfl fun w2 b4 a eb4 m4 B3 zb4 hF => ?_
    have sB3 := B3.size
    have hB := hB.trans (B3.mono hB.size)
    have hK := hK.below B3
    have mg := mg.old B3
    have hO := own_below hO B3
    refine s_end (hK1 _ _ ?_)
    refine wp_rs fun K2 hK2 => ?_
    refine s_val hF (x_fa0 fa24_0 rfl) (by decide) fun a hF => ?_
    refine s_val hF (x_load rfl (m_load flat3 (m4.cell (j := 0) rfl))) (by decide) fun a hF => ?_
    refine s_end (hK2 _ _ ?_)
    refine wp_block ?_
    refine wp_rs fun K3 hK3 => ?_
    refine s_val hF (x_eql (b := true) (decide_eq_true (by omega)) rfl rfl) (by decide) fun a hF => ?_
    refine s_val hF (x_assign rfl) (by decide) fun a hF => ?_
    refine s_end (hK3 _ _ ?_)
    refine wp_if hF rfl ?_
    refine dk2_one (g) (g) (ops := regOps Try.f139 3) (N := 13) (by kernel_rfl) wide_orders (by kernel_rfl) fun w4 hw4 B5 hS K4 hK4 => ?_
    have zw4 : w4.heap.size = w2.heap.size := by rw [hw4]
    have sB5 := B5.size
    have hB := hB.trans (B5.mono hB.size)
    have hK := hK.below B5
    have mg := mg.old B5
    have hO := own_below hO B5
    have m4 := m4.old B5
    have mg_d := mg
    have hO_d := hO
    have m4_d := m4
    have hB_d := hB
    have hK_d := hK
    refine d_val 0 10 (op := (Go.Op.move (Go.Operand.tmp 0))) hF hS (by kernel_rfl) (fun W hW => x_move rfl) (by kernel_rfl) (by decide) fun a hF => ?_
    refine d_val 1 11 (op := (Go.Op.move (Go.Operand.tmp 0))) hF hS (by kernel_rfl) (fun W hW => x_move rfl) (by kernel_rfl) (by decide) fun a hF => ?_
    refine d_val 2 12 (op := (Go.Op.nilCheck (Go.Operand.tmp 11))) hF hS (by kernel_rfl) (fun W hW => x_nil rfl) (by kernel_rfl) (by decide) fun a hF => ?_
    refine d_val 3 13 (op := (Go.Op.fieldAddr 126 (Go.Operand.tmp 12) 0)) hF hS (by kernel_rfl) (fun W hW => x_fa0 fa59_0 rfl) (by kernel_rfl) (by decide) fun a hF => ?_
    refine d_val 5 15 (op := (Go.Op.move (Go.Operand.tmp 2))) hF hS (by kernel_rfl) (fun W hW => x_move rfl) (by kernel_rfl) (by decide) fun a hF => ?_
    refine d_val 6 16 (op := (Go.Op.fieldAddr 24 (Go.Operand.tmp 4) 1)) hF hS (by kernel_rfl) (fun W hW => x_fa0 fa24_1 rfl) (by kernel_rfl) (by decide) fun a hF => ?_
    refine d_val 7 17 (op := (Go.Op.load 3 (Go.Operand.tmp 16))) hF hS (by kernel_rfl) (fun W hW => x_load rfl (m_load flat3 ((m4_d.k2 hW (by omega)).cell (j := 1) rfl))) (by kernel_rfl) (by decide) fun a hF => ?_
    refine d_two 4 8 (by kernel_rfl) ?_ ?_
    · refine d_op 4 (some 14) (Go.Op.load 3 (Go.Operand.tmp 13)) (by kernel_rfl) fun ty pos af => ?_
      refine s_val hF (x_load rfl (m_load flat3 (mg.cell (j := 0) rfl))) (by decide) fun a hF => ?_
      refine s_end ⟨hS, ?_⟩
      refine d_one 8 (some 18) (Go.Op.call (Go.Call.mk (Go.Callee.value (Go.Operand.func 140)) #[(Go.Operand.tmp 15), (Go.Operand.tmp 17)] #[3, 3])) (by kernel_rfl) (by kernel_rfl) fun ty pos af => ?_
      refine s_callS [_, _] hF (enters_of Try.func140 (by kernel_rfl) rfl) rfl (by decide) (sum54 _ _ (by omega) (by omega) (by omega) (by omega) _) fun a hF => ?_
      refine s_end ⟨hS, ?_⟩
      refine d_val 9 19 (op := (Go.Op.call (Go.Call.mk (Go.Callee.builtin Go.Builtin.max) #[(Go.Operand.tmp 14), (Go.Operand.tmp 18)] #[3, 3]))) hF hS (by kernel_rfl) (fun W hW => x_imax rfl rfl) (by kernel_rfl) (by decide) fun a hF => ?_
      refine d_val 10 20 (op := (Go.Op.nilCheck (Go.Operand.tmp 10))) hF hS (by kernel_rfl) (fun W hW => x_nil rfl) (by kernel_rfl) (by decide) fun a hF => ?_
      refine d_val 11 21 (op := (Go.Op.fieldAddr 126 (Go.Operand.tmp 20) 0)) hF hS (by kernel_rfl) (fun W hW => x_fa0 fa59_0 rfl) (by kernel_rfl) (by decide) fun a hF => ?_
      refine d_one 12 none (Go.Op.store 3 (Go.Operand.tmp 21) (Go.Operand.tmp 19)) (by kernel_rfl) (by kernel_rfl) fun ty pos af => ?_
      refine s_put hF rfl rfl flat3 mg (by simp) rfl fun w6 mg o7 => ?_
      have so7 := o7.size
      have hB := hB.trans (o7.below (by omega))
      have hK := hK.only o7 (by omega)
      have hO := own_only hO o7 (hne)
      have m4 := m4.only o7 (by omega)
      have hS := hS.only o7 (by omega)
      refine s_end ⟨hS, ?_⟩
      refine d_end (by kernel_rfl) (hK4 _ _ ?_)
      show bodyPost Try.prog Try.f139 (fun e w' => ∃ u, e = .returned u ∧ (u = .tuple #[] ∧ ∃ v' o', FA 126 w0.heap.size w' g o' v' (rc (SL.num p) n c) (rk (SL.num p) n ks) ∧ (o' = o ∨ w1.heap.size ≤ o')) ∧ Ktw g o w1 w') .normal a w6
      refine post_normal (res_none hF rfl ⟨_, rfl, ⟨rfl, _, _, ⟨mg, hO, hat, hne, by omega⟩, .inl rfl⟩, hK⟩)
    · refine d_op 8 (some 18) (Go.Op.call (Go.Call.mk (Go.Callee.value (Go.Operand.func 140)) #[(Go.Operand.tmp 15), (Go.Operand.tmp 17)] #[3, 3])) (by kernel_rfl) fun ty pos af => ?_
      refine s_callS [_, _] hF (enters_of Try.func140 (by kernel_rfl) rfl) rfl (by decide) (sum54 _ _ (by omega) (by omega) (by omega) (by omega) _) fun a hF => ?_
      refine s_end ⟨hS, ?_⟩
      refine d_one 4 (some 14) (Go.Op.load 3 (Go.Operand.tmp 13)) (by kernel_rfl) (by kernel_rfl) fun ty pos af => ?_
      refine s_val hF (x_load rfl (m_load flat3 (mg.cell (j := 0) rfl))) (by decide) fun a hF => ?_
      refine s_end ⟨hS, ?_⟩
      refine d_val 9 19 (op := (Go.Op.call (Go.Call.mk (Go.Callee.builtin Go.Builtin.max) #[(Go.Operand.tmp 14), (Go.Operand.tmp 18)] #[3, 3]))) hF hS (by kernel_rfl) (fun W hW => x_imax rfl rfl) (by kernel_rfl) (by decide) fun a hF => ?_
      refine d_val 10 20 (op := (Go.Op.nilCheck (Go.Operand.tmp 10))) hF hS (by kernel_rfl) (fun W hW => x_nil rfl) (by kernel_rfl) (by decide) fun a hF => ?_
      refine d_val 11 21 (op := (Go.Op.fieldAddr 126 (Go.Operand.tmp 20) 0)) hF hS (by kernel_rfl) (fun W hW => x_fa0 fa59_0 rfl) (by kernel_rfl) (by decide) fun a hF => ?_
      refine d_one 12 none (Go.Op.store 3 (Go.Operand.tmp 21) (Go.Operand.tmp 19)) (by kernel_rfl) (by kernel_rfl) fun ty pos af => ?_
      refine s_put hF rfl rfl flat3 mg (by simp) rfl fun w8 mg o9 => ?_
      have so9 := o9.size
      have hB := hB.trans (o9.below (by omega))
      have hK := hK.only o9 (by omega)
      have hO := own_only hO o9 (hne)
      have m4 := m4.only o9 (by omega)
      have hS := hS.only o9 (by omega)
      refine s_end ⟨hS, ?_⟩
      refine d_end (by kernel_rfl) (hK4 _ _ ?_)
      show bodyPost Try.prog Try.f139 (fun e w' => ∃ u, e = .returned u ∧ (u = .tuple #[] ∧ ∃ v' o', FA 126 w0.heap.size w' g o' v' (rc (SL.num p) n c) (rk (SL.num p) n ks) ∧ (o' = o ∨ w1.heap.size ≤ o')) ∧ Ktw g o w1 w') .normal a w8
      refine post_normal (res_none hF rfl ⟨_, rfl, ⟨rfl, _, _, ⟨mg, hO, hat, hne, by omega⟩, .inl rfl⟩, hK⟩)
  | var i =>
    rintro ⟨k, m, vx⟩ hS0 hnm n o v c ks w1 hn0 hn1 hc0 hc1 hkl hB hA
    have hK := Ktw.refl g o w1
    have sB := hB.size
    have hlo := hA.lo
    have hgl := hA.lt
    obtain ⟨h1, h2, h3⟩ := hS0
    simp only at h1 h2
    subst h1 h2
    have hi : i < 1001 := hnm
    refine calls_fs 57 [(0, .pointer (some ⟨g, 0, none⟩)), (1, .agg [.int .i64 2, .int .i64 (i : Int), vx].toArray), (2, .int .i64 n)] Try.func139 rfl rfl rfl rfl rfl fun a hF => ?_
    refine wp_rs fun K1 hK1 => ?_
    refine s_box ([.int .i64 2, .int .i64 (i : Int), vx]) hF (by decide) rfl rfl fun w2 b4 a eb4 m4 B3 zb4 hF => ?_
    have sB3 := B3.size
    have hB := hB.trans (B3.mono hB.size)
    have hK := hK.below B3
    have hA := hA.below B3
    refine s_end (hK1 _ _ ?_)
    refine wp_rs fun K2 hK2 => ?_
    refine s_val hF (x_fa0 fa24_0 rfl) (by decide) fun a hF => ?_
    refine s_val hF (x_load rfl (m_load flat3 (m4.cell (j := 0) rfl))) (by decide) fun a hF => ?_
    refine s_end (hK2 _ _ ?_)
    refine wp_block ?_
    refine wp_rs fun K3 hK3 => ?_
    refine s_val hF (x_eql (b := false) (decide_eq_false (by omega)) rfl rfl) (by decide) fun a hF => ?_
    refine s_val hF (x_assign rfl) (by decide) fun a hF => ?_
    refine s_end (hK3 _ _ ?_)
    refine wp_if hF rfl ?_
    refine wp_rs fun K4 hK4 => ?_
    refine s_val hF (x_eql (b := true) (decide_eq_true (by omega)) rfl rfl) (by decide) fun a hF => ?_
    refine s_val hF (x_assign rfl) (by decide) fun a hF => ?_
    refine s_end (hK4 _ _ ?_)
    refine wp_if hF rfl ?_
    refine wp_region_lit ?_
    refine s_val hF (x_move rfl) (by decide) fun a hF => ?_
    refine s_val hF (x_fa0 fa24_1 rfl) (by decide) fun a hF => ?_
    refine s_val hF (x_load rfl (m_load flat3 (m4.cell (j := 1) rfl))) (by decide) fun a hF => ?_
    refine s_val hF (x_move rfl) (by decide) fun a hF => ?_
    refine s_call (R := fun u w' => (u = .tuple #[] ∧ ∃ v' o', FA 126 w0.heap.size w' g o' v' c (up ks i n) ∧ (o' = o ∨ w2.heap.size ≤ o')) ∧ Ktw g o w2 w') hF [_, _, _] (enters_of Try.func126 (by kernel_rfl) rfl) rfl (by decide) (raiseVar48 w0.heap.size g o v c ks i n w2 hA (by omega) (by omega)) ?_
    rintro _ w4 a ⟨⟨rfl, v2, o2, hA, ho2⟩, k5⟩ hF
    have sk5 := k5.size
    have hB := k5.under hB (by omega)
    have hK := hK.trans k5 (by omega)
    have m4 := m4.k2 k5 (by omega)
    refine s_end ?_
    show bodyPost Try.prog Try.f139 (fun e w' => ∃ u, e = .returned u ∧ (u = .tuple #[] ∧ ∃ v' o', FA 126 w0.heap.size w' g o' v' (rc (SL.var i) n c) (rk (SL.var i) n ks) ∧ (o' = o ∨ w1.heap.size ≤ o')) ∧ Ktw g o w1 w') .normal a w4
    refine post_normal (res_none hF rfl ⟨_, rfl, ⟨rfl, _, _, hA, by omega⟩, hK⟩)
  | succ p sa iha =>
    rintro ⟨k, m, vx⟩ hS0 hnm n o v c ks w1 hn0 hn1 hc0 hc1 hkl hB hA
    have hK := Ktw.refl g o w1
    have sB := hB.size
    have hlo := hA.lo
    have hgl := hA.lt
    obtain ⟨h1, h2, y, h3, hy⟩ := hS0
    simp only at h1 h2 h3
    subst h1 h2
    have hp1 := hnm.1
    have hp2 := hnm.2.1
    obtain ⟨b, off, cp, rfl, hrow⟩ := rd_row1 h3
    refine calls_fs 57 [(0, .pointer (some ⟨g, 0, none⟩)), (1, .agg [.int .i64 3, .int .i64 (p : Int), .slice (some ⟨b, off, none⟩) 1 cp].toArray), (2, .int .i64 n)] Try.func139 rfl rfl rfl rfl rfl fun a hF => ?_
    refine wp_rs fun K1 hK1 => ?_
    refine s_box ([.int .i64 3, .int .i64 (p : Int), .slice (some ⟨b, off, none⟩) 1 cp]) hF (by decide) rfl rfl fun w2 b4 a eb4 m4 B3 zb4 hF => ?_
    have sB3 := B3.size
    have hB := hB.trans (B3.mono hB.size)
    have hK := hK.below B3
    have hA := hA.below B3
    refine s_end (hK1 _ _ ?_)
    refine wp_rs fun K2 hK2 => ?_
    refine s_val hF (x_fa0 fa24_0 rfl) (by decide) fun a hF => ?_
    refine s_val hF (x_load rfl (m_load flat3 (m4.cell (j := 0) rfl))) (by decide) fun a hF => ?_
    refine s_end (hK2 _ _ ?_)
    refine wp_block ?_
    refine wp_rs fun K3 hK3 => ?_
    refine s_val hF (x_eql (b := false) (decide_eq_false (by omega)) rfl rfl) (by decide) fun a hF => ?_
    refine s_val hF (x_assign rfl) (by decide) fun a hF => ?_
    refine s_end (hK3 _ _ ?_)
    refine wp_if hF rfl ?_
    refine wp_rs fun K4 hK4 => ?_
    refine s_val hF (x_eql (b := false) (decide_eq_false (by omega)) rfl rfl) (by decide) fun a hF => ?_
    refine s_val hF (x_assign rfl) (by decide) fun a hF => ?_
    refine s_end (hK4 _ _ ?_)
    refine wp_if hF rfl ?_
    refine wp_rs fun K5 hK5 => ?_
    refine s_val hF (x_eql (b := true) (decide_eq_true (by omega)) rfl rfl) (by decide) fun a hF => ?_
    refine s_val hF (x_assign rfl) (by decide) fun a hF => ?_
    refine s_end (hK5 _ _ ?_)
    refine wp_if hF rfl ?_
    refine dk2_one (g) (o) (ops := regOps Try.f139 7) (N := 10) (by kernel_rfl) wide_orders (by kernel_rfl) fun w4 hw4 B5 hS K6 hK6 => ?_
    have zw4 : w4.heap.size = w2.heap.size := by rw [hw4]
    have sB5 := B5.size
    have hB := hB.trans (B5.mono hB.size)
    have hK := hK.below B5
    have hA := hA.below B5
    have m4 := m4.old B5
    have hA_d := hA
    have m4_d := m4
    have hB_d := hB
    have hK_d := hK
    refine d_val 0 31 (op := (Go.Op.move (Go.Operand.tmp 0))) hF hS (by kernel_rfl) (fun W hW => x_move rfl) (by kernel_rfl) (by decide) fun a hF => ?_
    refine d_val 1 32 (op := (Go.Op.fieldAddr 24 (Go.Operand.tmp 4) 2)) hF hS (by kernel_rfl) (fun W hW => x_fa0 fa24_2 rfl) (by kernel_rfl) (by decide) fun a hF => ?_
    refine d_val 2 33 (op := (Go.Op.load 22 (Go.Operand.tmp 32))) hF hS (by kernel_rfl) (fun W hW => x_load rfl (m_load flat22 ((m4_d.k2 hW (by omega)).cell (j := 2) rfl))) (by kernel_rfl) (by decide) fun a hF => ?_
    refine d_val 3 34 (op := (Go.Op.indexAddr 22 (Go.Operand.tmp 33) (Go.Operand.const (Go.Value.int Go.IntKind.i64 0)))) hF hS (by kernel_rfl) (fun W hW => x_ixa rfl rfl (m_ixsK 0 Try.underlying22 el22.size rfl (by omega))) (by kernel_rfl) (by decide) fun a hF => ?_
    refine d_val 4 35 (op := (Go.Op.load 24 (Go.Operand.tmp 34))) hF hS (by kernel_rfl) (fun W hW => x_ldA wide24 (hrow _ (hW.under hB_d (by omega))) rfl rfl) (by kernel_rfl) (by decide) fun a hF => ?_
    refine d_val 5 36 (op := (Go.Op.move (Go.Operand.tmp 2))) hF hS (by kernel_rfl) (fun W hW => x_move rfl) (by kernel_rfl) (by decide) fun a hF => ?_
    refine d_val 6 37 (op := (Go.Op.fieldAddr 24 (Go.Operand.tmp 4) 1)) hF hS (by kernel_rfl) (fun W hW => x_fa0 fa24_1 rfl) (by kernel_rfl) (by decide) fun a hF => ?_
    refine d_val 7 38 (op := (Go.Op.load 3 (Go.Operand.tmp 37))) hF hS (by kernel_rfl) (fun W hW => x_load rfl (m_load flat3 ((m4_d.k2 hW (by omega)).cell (j := 1) rfl))) (by kernel_rfl) (by decide) fun a hF => ?_
    refine d_one 8 (some 39) (Go.Op.call (Go.Call.mk (Go.Callee.value (Go.Operand.func 140)) #[(Go.Operand.tmp 36), (Go.Operand.tmp 38)] #[3, 3])) (by kernel_rfl) (by kernel_rfl) fun ty pos af => ?_
    refine s_callS [_, _] hF (enters_of Try.func140 (by kernel_rfl) rfl) rfl (by decide) (sum54 _ _ (by omega) (by omega) (by omega) (by omega) _) fun a hF => ?_
    refine s_end ⟨hS, ?_⟩
    refine d_one 9 (some 40) (Go.Op.call (Go.Call.mk (Go.Callee.value (Go.Operand.func 139)) #[(Go.Operand.tmp 31), (Go.Operand.tmp 35), (Go.Operand.tmp 39)] #[141, 24, 3])) (by kernel_rfl) (by kernel_rfl) fun ty pos af => ?_
    refine s_call (R := fun u w' => (u = .tuple #[] ∧ ∃ v' o', FA 126 w0.heap.size w' g o' v' (rc sa (cut (n + (p : Int))) (c)) (rk sa (cut (n + (p : Int))) (ks)) ∧ (o' = o ∨ w4.heap.size ≤ o')) ∧ Ktw g o w4 w') hF [_, _, _] (enters_of Try.func139 (by kernel_rfl) rfl) rfl (by decide) (iha _ hy hnm.2.2 (cut (n + (p : Int))) _ _ (c) (ks) w4 (cut_nn (by omega)) (cut_le _) hc0 hc1 hkl hB hA) ?_
    rintro _ w6 a ⟨⟨rfl, v2, o2, hA, ho2⟩, k7⟩ hF
    have sk7 := k7.size
    have hB := k7.under hB (by omega)
    have hK := hK.trans k7 (by omega)
    have m4 := m4.k2 k7 (by omega)
    have hS := hS.trans k7 (by omega)
    refine s_end ⟨hS, ?_⟩
    refine d_end (by kernel_rfl) (hK6 _ _ ?_)
    show bodyPost Try.prog Try.f139 (fun e w' => ∃ u, e = .returned u ∧ (u = .tuple #[] ∧ ∃ v' o', FA 126 w0.heap.size w' g o' v' (rc (SL.succ p sa) n c) (rk (SL.succ p sa) n ks) ∧ (o' = o ∨ w1.heap.size ≤ o')) ∧ Ktw g o w1 w') .normal a w6
    refine post_normal (res_none hF rfl ⟨_, rfl, ⟨rfl, _, _, hA, by omega⟩, hK⟩)
  | mx sa sb iha ihb =>
    rintro ⟨k, m, vx⟩ hS0 hnm n o v c ks w1 hn0 hn1 hc0 hc1 hkl hB hA
    have hK := Ktw.refl g o w1
    have sB := hB.size
    have hlo := hA.lo
    have hgl := hA.lt
    obtain ⟨h1, y, z, h3, hy, hz⟩ := hS0
    simp only at h1 h3
    subst h1
    obtain ⟨b, off, cp, rfl, hrow1, hrow2⟩ := rd_row2 h3
    refine calls_fs 57 [(0, .pointer (some ⟨g, 0, none⟩)), (1, .agg [.int .i64 4, .int .i64 m, .slice (some ⟨b, off, none⟩) 2 cp].toArray), (2, .int .i64 n)] Try.func139 rfl rfl rfl rfl rfl fun a hF => ?_
    refine wp_rs fun K1 hK1 => ?_
    refine s_box ([.int .i64 4, .int .i64 m, .slice (some ⟨b, off, none⟩) 2 cp]) hF (by decide) rfl rfl fun w2 b4 a eb4 m4 B3 zb4 hF => ?_
    have sB3 := B3.size
    have hB := hB.trans (B3.mono hB.size)
    have hK := hK.below B3
    have hA := hA.below B3
    refine s_end (hK1 _ _ ?_)
    refine wp_rs fun K2 hK2 => ?_
    refine s_val hF (x_fa0 fa24_0 rfl) (by decide) fun a hF => ?_
    refine s_val hF (x_load rfl (m_load flat3 (m4.cell (j := 0) rfl))) (by decide) fun a hF => ?_
    refine s_end (hK2 _ _ ?_)
    refine wp_block ?_
    refine wp_rs fun K3 hK3 => ?_
    refine s_val hF (x_eql (b := false) (decide_eq_false (by omega)) rfl rfl) (by decide) fun a hF => ?_
    refine s_val hF (x_assign rfl) (by decide) fun a hF => ?_
    refine s_end (hK3 _ _ ?_)
    refine wp_if hF rfl ?_
    refine wp_rs fun K4 hK4 => ?_
    refine s_val hF (x_eql (b := false) (decide_eq_false (by omega)) rfl rfl) (by decide) fun a hF => ?_
    refine s_val hF (x_assign rfl) (by decide) fun a hF => ?_
    refine s_end (hK4 _ _ ?_)
    refine wp_if hF rfl ?_
    refine wp_rs fun K5 hK5 => ?_
    refine s_val hF (x_eql (b := false) (decide_eq_false (by omega)) rfl rfl) (by decide) fun a hF => ?_
    refine s_val hF (x_assign rfl) (by decide) fun a hF => ?_
    refine s_end (hK5 _ _ ?_)
    refine wp_if hF rfl ?_
    refine wp_rs fun K6 hK6 => ?_
    refine s_val hF (x_eql (b := true) (decide_eq_true (by omega)) rfl rfl) (by decide) fun a hF => ?_
    refine s_val hF (x_assign rfl) (by decide) fun a hF => ?_
    refine s_end (hK6 _ _ ?_)
    refine wp_if hF rfl ?_
    refine wp_rs fun K7 hK7 => ?_
    refine s_val hF (x_move rfl) (by decide) fun a hF => ?_
    refine s_val hF (x_fa0 fa24_2 rfl) (by decide) fun a hF => ?_
    refine s_val hF (x_load rfl (m_load flat22 (m4.cell (j := 2) rfl))) (by decide) fun a hF => ?_
    refine s_val hF (x_ixa rfl rfl (m_ixsK 0 Try.underlying22 el22.size rfl (by omega))) (by decide) fun a hF => ?_
    refine s_val hF (x_ldA wide24 (hrow1 _ hB) rfl rfl) (by decide) fun a hF => ?_
    refine s_val hF (x_move rfl) (by decide) fun a hF => ?_
    refine s_call (R := fun u w' => (u = .tuple #[] ∧ ∃ v' o', FA 126 w0.heap.size w' g o' v' (rc sa (n) (c)) (rk sa (n) (ks)) ∧ (o' = o ∨ w2.heap.size ≤ o')) ∧ Ktw g o w2 w') hF [_, _, _] (enters_of Try.func139 (by kernel_rfl) rfl) rfl (by decide) (iha _ hy hnm.1 (n) _ _ (c) (ks) w2 hn0 hn1 hc0 hc1 hkl hB hA) ?_
    rintro _ w4 a ⟨⟨rfl, v2, o2, hA, ho2⟩, k5⟩ hF
    have sk5 := k5.size
    have hB := k5.under hB (by omega)
    have hK := hK.trans k5 (by omega)
    have m4 := m4.k2 k5 (by omega)
    have hlo2 := hA.lo
    have hgl2 := hA.lt
    have hbd := rc_bd (s := sa) hn0 hn1 hc0 hc1
    refine s_end (hK7 _ _ ?_)
    refine wp_region_lit ?_
    refine s_val hF (x_move rfl) (by decide) fun a hF => ?_
    refine s_val hF (x_fa0 fa24_2 rfl) (by decide) fun a hF => ?_
    refine s_val hF (x_load rfl (m_load flat22 (m4.cell (j := 2) rfl))) (by decide) fun a hF => ?_
    refine s_val hF (x_ixa rfl rfl (m_ixsK 1 Try.underlying22 el22.size rfl (by omega))) (by decide) fun a hF => ?_
    refine s_val hF (x_ldA wide24 (hrow2 _ hB) rfl rfl) (by decide) fun a hF => ?_
    refine s_val hF (x_move rfl) (by decide) fun a hF => ?_
    refine s_call (R := fun u w' => (u = .tuple #[] ∧ ∃ v' o', FA 126 w0.heap.size w' g o' v' (rc sb (n) (rc sa n c)) (rk sb (n) (rk sa n ks)) ∧ (o' = o2 ∨ w4.heap.size ≤ o')) ∧ Ktw g o2 w4 w') hF [_, _, _] (enters_of Try.func139 (by kernel_rfl) rfl) rfl (by decide) (ihb _ hz hnm.2 (n) _ _ (rc sa n c) (rk sa n ks) w4 hn0 hn1 hbd.1 hbd.2 (rk_len sa n ks 1001 hnm.1 hkl) hB hA) ?_
    rintro _ w6 a ⟨⟨rfl, v3, o3, hA, ho3⟩, k7⟩ hF
    have sk7 := k7.size
    have hB := k7.under hB (by omega)
    have hK := hK.trans k7 (by omega)
    have m4 := m4.k2 k7 (by omega)
    refine s_end ?_
    show bodyPost Try.prog Try.f139 (fun e w' => ∃ u, e = .returned u ∧ (u = .tuple #[] ∧ ∃ v' o', FA 126 w0.heap.size w' g o' v' (rc (SL.mx sa sb) n c) (rk (SL.mx sa sb) n ks) ∧ (o' = o ∨ w1.heap.size ≤ o')) ∧ Ktw g o w1 w') .normal a w6
    refine post_normal (res_none hF rfl ⟨_, rfl, ⟨rfl, _, _, hA, by omega⟩, hK⟩)

set_option maxRecDepth 100000 in
set_option maxHeartbeats 1600000 in
theorem max63 (ks : List Int) (v : Value) (w0 : World) (hn : 0 < ks.length) (hl : ks.length ≤ 9223372036854775807) (hLo : Lo ks) (hV : Rd w0 v 1 ks.length (ints ks)) : Calls Try.prog 113 #[v] w0 fun e w' => e = .returned (.int .i64 (mxl ks)) ∧ w' = w0 := by
  obtain ⟨b, off, cv, hve, hrow0⟩ := rd_rowI hV (i := 0) hn
  subst hve
  have hBr := Below.refl w0.heap.size w0
  have h0 := hLo.gt 0
  refine calls_fs 25 [(0, .slice (some ⟨b, off, none⟩) ks.length cv)] Try.func113 rfl rfl rfl rfl rfl fun a hF => ?_
  refine wp_rs fun K1 hK1 => ?_
  refine s_val hF (x_assign rfl) (by decide) fun a hF => ?_
  refine s_end (hK1 _ _ ?_)
  refine wp_seq_k fun K2 hK2 => ?_
  refine wp_rs fun K3 hK3 => ?_
  refine s_val hF (x_move rfl) (by decide) fun a hF => ?_
  refine s_val hF (x_len Try.underlying83 rfl) (by decide) fun a hF => ?_
  refine s_val hF (x_lss (b := false) (decide_eq_false (by omega)) rfl rfl) (by decide) fun a hF => ?_
  refine s_end (hK3 _ _ ?_)
  refine wp_if hF rfl ?_
  refine wp_skip (hK2 _ _ ?_)
  refine wp_rs fun K4 hK4 => ?_
  refine s_val hF (x_move rfl) (by decide) fun a hF => ?_
  refine s_val hF (x_ixa rfl rfl (m_ixs 0 Try.underlying83 el29.size rfl (by omega))) (by decide) fun a hF => ?_
  refine s_val hF (x_load rfl (m_load flat3 (hrow0 _ hBr))) (by decide) fun a hF => ?_
  refine s_val hF (x_assign rfl) (by decide) fun a hF => ?_
  refine s_end (hK4 _ _ ?_)
  refine wp_seq_k fun K5 hK5 => ?_
  refine wp_rs fun K6 hK6 => ?_
  refine s_val hF (x_assign rfl) (by decide) fun a hF => ?_
  refine s_end (hK6 _ _ ?_)
  refine wp_block ?_
  refine wp_up (ks.length - 1) (fun j a w => w = w0 ∧ Fs 25 a [(3, .int .i64 ((ks.take (j + 1)).foldl max (-1))), (4, .int .i64 ((j + 1 : Nat) : Int)), (0, .slice (some ⟨b, off, none⟩) ks.length cv)]) ⟨rfl, ?_⟩ ?_
  · have e1 : (ks.take 1).foldl max (-1) = gt ks 0 := by rw [List.take_one, List.head?_eq_getElem?, List.getElem?_eq_getElem hn, gt_lt hn]; simp only [Option.toList_some, List.foldl_cons, List.foldl_nil]; rw [gt_lt hn] at h0; omega
    refine hF.sub _ ?_
    show [_, _, _] = [_, _, _]
    rw [show (0 + 1 : Nat) = 1 from rfl, e1]
    rfl
  clear hF
  rintro j a w hj ⟨rfl, hF⟩ K' hK'
  refine wp_seq_k fun K7 hK7 => ?_
  refine wp_rs fun K8 hK8 => ?_
  refine s_val hF (x_move rfl) (by decide) fun a hF => ?_
  refine s_val hF (x_move rfl) (by decide) fun a hF => ?_
  refine s_val hF (x_len Try.underlying83 rfl) (by decide) fun a hF => ?_
  refine s_val hF (x_lss (b := decide (j + 1 < ks.length)) (decide_eq_decide.2 (by omega)) rfl rfl) (by decide) fun a hF => ?_
  refine s_end (hK8 _ _ ?_)
  refine wp_iff hF rfl (fun hc15 => ?_) (fun hc15 => ?_)
  · obtain ⟨b2, off2, cv2, hve, hrow⟩ := rd_rowI hV (i := j + 1) (by omega)
    cases hve
    refine wp_skip (hK7 _ _ ?_)
    refine wp_seq_k fun K9 hK9 => ?_
    refine wp_block ?_
    refine wp_region_lit ?_
    refine s_val hF (x_move rfl) (by decide) fun a hF => ?_
    refine s_val hF (x_move rfl) (by decide) fun a hF => ?_
    refine s_val hF (x_move rfl) (by decide) fun a hF => ?_
    refine s_val hF (x_ixa rfl rfl (m_ixs (j + 1) Try.underlying83 el29.size rfl (by omega))) (by decide) fun a hF => ?_
    refine s_val hF (x_load rfl (m_load flat3 (hrow _ hBr))) (by decide) fun a hF => ?_
    refine s_val hF (x_imax rfl rfl) (by decide) fun a hF => ?_
    refine s_val hF (x_assign rfl) (by decide) fun a hF => ?_
    refine s_end (hK9 _ _ ?_)
    refine wp_region_lit ?_
    refine s_val hF (x_move rfl) (by decide) fun a hF => ?_
    refine s_val hF (x_addn (j + 1 + 1) (by omega) (by omega) rfl rfl) (by decide) fun a hF => ?_
    refine s_val hF (x_assign rfl) (by decide) fun a hF => ?_
    have e1 : (ks.take (j + 1 + 1)).foldl max (-1) = max ((ks.take (j + 1)).foldl max (-1)) (gt ks (j + 1)) := by rw [List.take_add_one, List.getElem?_eq_getElem (by omega), gt_lt (by omega), List.foldl_append]; rfl
    refine s_end (hK' _ _ (by omega) ⟨rfl, hF.sub _ (by rw [e1]; rfl)⟩)
  · refine wp_exit (hK5 _ _ ?_)
    refine wp_rs fun K10 hK10 => ?_
    refine s_val hF (x_move rfl) (by decide) fun a hF => ?_
    refine s_val hF (x_assign rfl) (by decide) fun a hF => ?_
    refine s_end (hK10 _ _ ?_)
    refine wp_ret (res_slot hF rfl rfl ⟨by rw [mxl, List.take_of_length_le (by omega)], rfl⟩)

set_option maxRecDepth 100000 in
set_option maxHeartbeats 1600000 in
theorem equal62 (ks ls : List Int) (v u : Value) (w0 : World) (hl : ks.length ≤ 9223372036854775807) (hV : Rd w0 v 1 ks.length (ints ks)) (hU : Rd w0 u 1 ls.length (ints ls)) : Calls Try.prog 148 #[v, u] w0 fun e w' => e = .returned (.bool (decide (ks = ls))) ∧ Below w0.heap.size w0 w' := by
  obtain ⟨av, cv, hve, _⟩ := hV.form
  obtain ⟨au, cu, hue, _⟩ := hU.form
  subst hve hue
  have hB := Below.refl w0.heap.size w0
  have sB := hB.size
  refine calls_fs 26 [(0, .slice av ks.length cv), (1, .slice au ls.length cu)] Try.func148 rfl rfl rfl rfl rfl fun a hF => ?_
  refine wp_rs fun K1 hK1 => ?_
  refine s_val hF (x_assign rfl) (by decide) fun a hF => ?_
  refine s_end (hK1 _ _ ?_)
  refine wp_seq_k fun K2 hK2 => ?_
  rcases (show ks.length ≠ ls.length ∨ ks.length = ls.length by omega) with hq | hq
  · skip
    refine wp_rs fun K4 hK4 => ?_
    refine s_val hF (x_move rfl) (by decide) fun a hF => ?_
    refine s_val hF (x_len Try.underlying83 rfl) (by decide) fun a hF => ?_
    refine s_val hF (x_move rfl) (by decide) fun a hF => ?_
    refine s_val hF (x_len Try.underlying83 rfl) (by decide) fun a hF => ?_
    refine s_val hF (x_neq (b := true) (decide_eq_true (by omega)) rfl rfl) (by decide) fun a hF => ?_
    refine s_end (hK4 _ _ ?_)
    refine wp_if hF rfl ?_
    refine wp_rs fun K5 hK5 => ?_
    refine s_val hF (x_assign rfl) (by decide) fun a hF => ?_
    refine s_end (hK5 _ _ ?_)
    refine wp_ret (then_ret (res_slot hF rfl rfl ⟨by rw [decide_eq_false (fun h => hq (by rw [h]))], hB⟩))
  · skip
    refine wp_rs fun K6 hK6 => ?_
    refine s_val hF (x_move rfl) (by decide) fun a hF => ?_
    refine s_val hF (x_len Try.underlying83 rfl) (by decide) fun a hF => ?_
    refine s_val hF (x_move rfl) (by decide) fun a hF => ?_
    refine s_val hF (x_len Try.underlying83 rfl) (by decide) fun a hF => ?_
    refine s_val hF (x_neq (b := false) (decide_eq_false (by omega)) rfl rfl) (by decide) fun a hF => ?_
    refine s_end (hK6 _ _ ?_)
    refine wp_if hF rfl ?_
    refine wp_skip (hK2 _ _ ?_)
    refine wp_seq_k fun K7 hK7 => ?_
    refine wp_rs fun K8 hK8 => ?_
    refine s_val hF (x_move rfl) (by decide) fun a hF => ?_
    refine s_val hF (x_len Try.underlying83 rfl) (by decide) fun a hF => ?_
    refine s_val hF (x_move rfl) (by decide) fun a hF => ?_
    refine s_end (hK8 _ _ ?_)
    refine wp_block ?_
    refine wp_up ks.length (fun i a w => ks.take i = ls.take i ∧ Below w0.heap.size w0 w ∧ Fs 26 a [(13, .int .i64 (i : Int)), (12, .int .i64 (ks.length : Int)), (0, .slice av ks.length cv), (1, .slice au ls.length cu)]) ⟨by simp, hB, hF.sub _ rfl⟩ ?_
    clear hF hB
    rintro i a w hi ⟨heq, hB, hF⟩ K' hK'
    have sB := hB.size
    refine wp_rs fun K9 hK9 => ?_
    refine s_val hF (x_lss rfl rfl rfl) (by decide) fun a hF => ?_
    refine s_end (hK9 _ _ ?_)
    refine wp_seq_k fun K10 hK10 => ?_
    refine wp_iff hF rfl (fun hc14 => ?_) (fun hc14 => ?_)
    · obtain ⟨b1, off1, c1, hve, hrow1⟩ := rd_rowI hV (i := i) (by omega)
      cases hve
      obtain ⟨b2, off2, c2, hve, hrow2⟩ := rd_rowI hU (i := i) (by omega)
      cases hve
      refine wp_skip (hK10 _ _ ?_)
      refine wp_seq_k fun K11 hK11 => ?_
      refine wp_block ?_
      refine wp_rs fun K12 hK12 => ?_
      refine s_val hF (x_move rfl) (by decide) fun a hF => ?_
      refine s_val hF (x_assign rfl) (by decide) fun a hF => ?_
      refine s_end (hK12 _ _ ?_)
      refine dk2_seq (w.heap.size) (w.heap.size) (ops := regOps Try.f148 6) (N := 9) (by kernel_rfl) wide_orders (by kernel_rfl) fun w2 hw2 B3 hS K13 hK13 => ?_
      have zw2 : w2.heap.size = w.heap.size := by rw [hw2]
      have sB3 := B3.size
      have hB := hB.trans (B3.mono hB.size)
      have hB_d := hB
      refine d_val 0 16 (op := (Go.Op.move (Go.Operand.tmp 0))) hF hS (by kernel_rfl) (fun W hW => x_move rfl) (by kernel_rfl) (by decide) fun a hF => ?_
      refine d_val 1 17 (op := (Go.Op.move (Go.Operand.tmp 5))) hF hS (by kernel_rfl) (fun W hW => x_move rfl) (by kernel_rfl) (by decide) fun a hF => ?_
      refine d_val 2 18 (op := (Go.Op.indexAddr 83 (Go.Operand.tmp 16) (Go.Operand.tmp 17))) hF hS (by kernel_rfl) (fun W hW => x_ixa rfl rfl (m_ixs i Try.underlying83 el29.size rfl (by omega))) (by kernel_rfl) (by decide) fun a hF => ?_
      refine d_val 3 19 (op := (Go.Op.load 3 (Go.Operand.tmp 18))) hF hS (by kernel_rfl) (fun W hW => x_load rfl (m_load flat3 (hrow1 _ (hW.under hB_d (by omega))))) (by kernel_rfl) (by decide) fun a hF => ?_
      refine d_val 4 20 (op := (Go.Op.move (Go.Operand.tmp 1))) hF hS (by kernel_rfl) (fun W hW => x_move rfl) (by kernel_rfl) (by decide) fun a hF => ?_
      refine d_val 5 21 (op := (Go.Op.move (Go.Operand.tmp 5))) hF hS (by kernel_rfl) (fun W hW => x_move rfl) (by kernel_rfl) (by decide) fun a hF => ?_
      refine d_val 6 22 (op := (Go.Op.indexAddr 83 (Go.Operand.tmp 20) (Go.Operand.tmp 21))) hF hS (by kernel_rfl) (fun W hW => x_ixa rfl rfl (m_ixs i Try.underlying83 el29.size rfl (by omega))) (by kernel_rfl) (by decide) fun a hF => ?_
      refine d_val 7 23 (op := (Go.Op.load 3 (Go.Operand.tmp 22))) hF hS (by kernel_rfl) (fun W hW => x_load rfl (m_load flat3 (hrow2 _ (hW.under hB_d (by omega))))) (by kernel_rfl) (by decide) fun a hF => ?_
      refine d_val 8 24 (op := (Go.Op.binOp Go.BinOp.neq 3 (Go.Operand.tmp 19) (Go.Operand.tmp 23) 3)) hF hS (by kernel_rfl) (fun W hW => x_neq rfl rfl rfl) (by kernel_rfl) (by decide) fun a hF => ?_
      refine d_end (by kernel_rfl) (hK13 _ _ ?_)
      refine wp_iff hF rfl (fun hc24 => ?_) (fun hc24 => ?_)
      · refine wp_rs fun K14 hK14 => ?_
        refine s_val hF (x_assign rfl) (by decide) fun a hF => ?_
        refine s_end (hK14 _ _ ?_)
        refine wp_ret (inb_ret (then_ret (then_ret (inb_ret (then_ret (res_slot hF rfl rfl ⟨by rw [decide_eq_false (fun h => hc24 (by rw [h]))], hB⟩))))))
      · refine wp_skip (hK11 _ _ ?_)
        refine wp_region_lit ?_
        refine s_val hF (x_addn (i + 1) (by omega) (by omega) rfl rfl) (by decide) fun a hF => ?_
        refine s_val hF (x_move rfl) (by decide) fun a hF => ?_
        have heq2 : ks.take (i + 1) = ls.take (i + 1) := by rw [List.take_add_one, List.take_add_one, heq, List.getElem?_eq_getElem (by omega), List.getElem?_eq_getElem (by omega)]; rw [gt_lt (by omega), gt_lt (by omega)] at hc24; rw [show ks[i] = ls[i] by omega]
        refine s_end (hK' _ _ (by omega) ⟨heq2, hB, hF.sub _ rfl⟩)
    · refine wp_exit (hK7 _ _ ?_)
      refine wp_rs fun K15 hK15 => ?_
      refine s_val hF (x_assign rfl) (by decide) fun a hF => ?_
      refine s_end (hK15 _ _ ?_)
      refine wp_ret (res_slot hF rfl rfl ⟨by rw [decide_eq_true (show ks = ls by rw [← List.take_of_length_le (l := ks) (i := i) (by omega), ← List.take_of_length_le (l := ls) (i := i) (by omega)]; exact heq)], hB⟩)

set_option maxRecDepth 100000 in
set_option maxHeartbeats 1600000 in
theorem settle47 (base g o : Nat) (v : Value) (c : Int) (ks : List Int) (w1 : World) (hA : FA 126 base w1 g o v c ks) (hks : ks.length ≤ 3000) (hLo : Lo ks) (hc : 0 ≤ c) :
    Calls Try.prog 128 #[.pointer (some ⟨g, 0, none⟩)] w1 fun e w' => ∃ u, e = .returned u ∧ (u = .tuple #[] ∧ FA 126 base w' g o v (setl c ks) ks) ∧ Ktw g o w1 w' := by
  have hK := Ktw.refl g o w1
  have hlo := hA.lo
  obtain ⟨av, cv, rfl, hcv⟩ := hA.form
  have mg := hA.blk
  have hO := hA.own
  have hat := hA.at'
  have hne := hA.ne
  have hgl := mg.lt
  refine calls_fs 23 [(0, .pointer (some ⟨g, 0, none⟩))] Try.func128 rfl rfl rfl rfl rfl fun a hF => ?_
  rcases (show ks.length = 0 ∨ (0 < ks.length ∧ c ≤ mxl ks) ∨ (0 < ks.length ∧ mxl ks < c) by omega) with hq | hq | hq
  · have hz : setl c ks = c := by rw [List.eq_nil_of_length_eq_zero hq]; have := setl_is c []; have h2 : mxl [] = -1 := rfl; omega
    refine dk2_seq (w1.heap.size) (w1.heap.size) (ops := regOps Try.f128 0) (N := 18) (by kernel_rfl) wide_orders (by kernel_rfl) fun w2 hw2 B3 hS K2 hK2 => ?_
    have zw2 : w2.heap.size = w1.heap.size := by rw [hw2]
    have sB3 := B3.size
    have hK := hK.below B3
    have mg := mg.old B3
    have hO := own_below hO B3
    have mg_d := mg
    have hO_d := hO
    have hK_d := hK
    refine d_val 0 2 (op := (Go.Op.move (Go.Operand.tmp 0))) hF hS (by kernel_rfl) (fun W hW => x_move rfl) (by kernel_rfl) (by decide) fun a hF => ?_
    refine d_val 1 3 (op := (Go.Op.nilCheck (Go.Operand.tmp 2))) hF hS (by kernel_rfl) (fun W hW => x_nil rfl) (by kernel_rfl) (by decide) fun a hF => ?_
    refine d_val 2 4 (op := (Go.Op.fieldAddr 126 (Go.Operand.tmp 3) 1)) hF hS (by kernel_rfl) (fun W hW => x_fa0 fa59_1 rfl) (by kernel_rfl) (by decide) fun a hF => ?_
    refine d_val 3 5 (op := (Go.Op.load 83 (Go.Operand.tmp 4))) hF hS (by kernel_rfl) (fun W hW => x_load rfl (m_load flat29 ((mg_d.k2 hW (by omega)).cell (j := 1) rfl))) (by kernel_rfl) (by decide) fun a hF => ?_
    refine d_val 4 6 (op := (Go.Op.call (Go.Call.mk (Go.Callee.builtin Go.Builtin.len) #[(Go.Operand.tmp 5)] #[83]))) hF hS (by kernel_rfl) (fun W hW => x_len Try.underlying83 rfl) (by kernel_rfl) (by decide) fun a hF => ?_
    refine d_val 5 7 (op := (Go.Op.binOp Go.BinOp.gtr 3 (Go.Operand.tmp 6) (Go.Operand.const (Go.Value.int Go.IntKind.i64 0)) 3)) hF hS (by kernel_rfl) (fun W hW => x_gtr (b := false) (decide_eq_false (by omega)) rfl rfl) (by kernel_rfl) (by decide) fun a hF => ?_
    refine d_val 6 8 (op := (Go.Op.move (Go.Operand.tmp 7))) hF hS (by kernel_rfl) (fun W hW => x_move rfl) (by kernel_rfl) (by decide) fun a hF => ?_
    refine d_skip 7 9 8 (j := 6) (want := true) (op := (Go.Op.move (Go.Operand.tmp 0))) hF hS (by kernel_rfl) (by kernel_rfl) rfl (by kernel_rfl) (by decide) fun a hF => ?_
    refine d_skip 8 10 8 (j := 6) (want := true) (op := (Go.Op.nilCheck (Go.Operand.tmp 9))) hF hS (by kernel_rfl) (by kernel_rfl) rfl (by kernel_rfl) (by decide) fun a hF => ?_
    refine d_skip 9 11 8 (j := 6) (want := true) (op := (Go.Op.fieldAddr 126 (Go.Operand.tmp 10) 1)) hF hS (by kernel_rfl) (by kernel_rfl) rfl (by kernel_rfl) (by decide) fun a hF => ?_
    refine d_skip 10 12 8 (j := 6) (want := true) (op := (Go.Op.load 83 (Go.Operand.tmp 11))) hF hS (by kernel_rfl) (by kernel_rfl) rfl (by kernel_rfl) (by decide) fun a hF => ?_
    refine d_skip 11 13 8 (j := 6) (want := true) (op := (Go.Op.call (Go.Call.mk (Go.Callee.value (Go.Operand.func 113)) #[(Go.Operand.tmp 12)] #[83]))) hF hS (by kernel_rfl) (by kernel_rfl) rfl (by kernel_rfl) (by decide) fun a hF => ?_
    refine d_skip 12 14 8 (j := 6) (want := true) (op := (Go.Op.move (Go.Operand.tmp 0))) hF hS (by kernel_rfl) (by kernel_rfl) rfl (by kernel_rfl) (by decide) fun a hF => ?_
    refine d_skip 13 15 8 (j := 6) (want := true) (op := (Go.Op.nilCheck (Go.Operand.tmp 14))) hF hS (by kernel_rfl) (by kernel_rfl) rfl (by kernel_rfl) (by decide) fun a hF => ?_
    refine d_skip 14 16 8 (j := 6) (want := true) (op := (Go.Op.fieldAddr 126 (Go.Operand.tmp 15) 0)) hF hS (by kernel_rfl) (by kernel_rfl) rfl (by kernel_rfl) (by decide) fun a hF => ?_
    refine d_skip 15 17 8 (j := 6) (want := true) (op := (Go.Op.load 3 (Go.Operand.tmp 16))) hF hS (by kernel_rfl) (by kernel_rfl) rfl (by kernel_rfl) (by decide) fun a hF => ?_
    refine d_skip 16 18 8 (j := 6) (want := true) (op := (Go.Op.binOp Go.BinOp.geq 3 (Go.Operand.tmp 13) (Go.Operand.tmp 17) 3)) hF hS (by kernel_rfl) (by kernel_rfl) rfl (by kernel_rfl) (by decide) fun a hF => ?_
    refine d_val 17 19 (op := (Go.Op.pick (Go.Operand.tmp 8) (Go.Operand.tmp 18) (Go.Operand.const (Go.Value.bool false)))) hF hS (by kernel_rfl) (fun W hW => x_pick (b := false) rfl rfl) (by kernel_rfl) (by decide) fun a hF => ?_
    refine d_end (by kernel_rfl) (hK2 _ _ ?_)
    refine wp_if hF rfl ?_
    refine wp_skip ?_
    show bodyPost Try.prog Try.f128 (_) .normal a w2
    refine post_normal (res_none hF rfl ⟨_, rfl, ⟨rfl, ⟨by rw [hz]; exact mg, hO, hat, hne, by have := hK.size; omega⟩⟩, hK⟩)
  · have hz : setl c ks = 0 := by have := setl_is c ks; omega
    refine dk2_seq (w1.heap.size) (w1.heap.size) (ops := regOps Try.f128 0) (N := 18) (by kernel_rfl) wide_orders (by kernel_rfl) fun w4 hw4 B5 hS K3 hK3 => ?_
    have zw4 : w4.heap.size = w1.heap.size := by rw [hw4]
    have sB5 := B5.size
    have hK := hK.below B5
    have mg := mg.old B5
    have hO := own_below hO B5
    have mg_d := mg
    have hO_d := hO
    have hK_d := hK
    refine d_val 0 2 (op := (Go.Op.move (Go.Operand.tmp 0))) hF hS (by kernel_rfl) (fun W hW => x_move rfl) (by kernel_rfl) (by decide) fun a hF => ?_
    refine d_val 1 3 (op := (Go.Op.nilCheck (Go.Operand.tmp 2))) hF hS (by kernel_rfl) (fun W hW => x_nil rfl) (by kernel_rfl) (by decide) fun a hF => ?_
    refine d_val 2 4 (op := (Go.Op.fieldAddr 126 (Go.Operand.tmp 3) 1)) hF hS (by kernel_rfl) (fun W hW => x_fa0 fa59_1 rfl) (by kernel_rfl) (by decide) fun a hF => ?_
    refine d_val 3 5 (op := (Go.Op.load 83 (Go.Operand.tmp 4))) hF hS (by kernel_rfl) (fun W hW => x_load rfl (m_load flat29 ((mg_d.k2 hW (by omega)).cell (j := 1) rfl))) (by kernel_rfl) (by decide) fun a hF => ?_
    refine d_val 4 6 (op := (Go.Op.call (Go.Call.mk (Go.Callee.builtin Go.Builtin.len) #[(Go.Operand.tmp 5)] #[83]))) hF hS (by kernel_rfl) (fun W hW => x_len Try.underlying83 rfl) (by kernel_rfl) (by decide) fun a hF => ?_
    refine d_val 5 7 (op := (Go.Op.binOp Go.BinOp.gtr 3 (Go.Operand.tmp 6) (Go.Operand.const (Go.Value.int Go.IntKind.i64 0)) 3)) hF hS (by kernel_rfl) (fun W hW => x_gtr (b := true) (decide_eq_true (by omega)) rfl rfl) (by kernel_rfl) (by decide) fun a hF => ?_
    refine d_val 6 8 (op := (Go.Op.move (Go.Operand.tmp 7))) hF hS (by kernel_rfl) (fun W hW => x_move rfl) (by kernel_rfl) (by decide) fun a hF => ?_
    refine d_valg 7 9 8 (j := 6) (want := true) (op := (Go.Op.move (Go.Operand.tmp 0))) hF hS (by kernel_rfl) (by kernel_rfl) rfl (fun W hW => x_move rfl) (by kernel_rfl) (by decide) fun a hF => ?_
    refine d_valg 8 10 8 (j := 6) (want := true) (op := (Go.Op.nilCheck (Go.Operand.tmp 9))) hF hS (by kernel_rfl) (by kernel_rfl) rfl (fun W hW => x_nil rfl) (by kernel_rfl) (by decide) fun a hF => ?_
    refine d_valg 9 11 8 (j := 6) (want := true) (op := (Go.Op.fieldAddr 126 (Go.Operand.tmp 10) 1)) hF hS (by kernel_rfl) (by kernel_rfl) rfl (fun W hW => x_fa0 fa59_1 rfl) (by kernel_rfl) (by decide) fun a hF => ?_
    refine d_valg 10 12 8 (j := 6) (want := true) (op := (Go.Op.load 83 (Go.Operand.tmp 11))) hF hS (by kernel_rfl) (by kernel_rfl) rfl (fun W hW => x_load rfl (m_load flat29 ((mg_d.k2 hW (by omega)).cell (j := 1) rfl))) (by kernel_rfl) (by decide) fun a hF => ?_
    refine d_valg 12 14 8 (j := 6) (want := true) (op := (Go.Op.move (Go.Operand.tmp 0))) hF hS (by kernel_rfl) (by kernel_rfl) rfl (fun W hW => x_move rfl) (by kernel_rfl) (by decide) fun a hF => ?_
    refine d_valg 13 15 8 (j := 6) (want := true) (op := (Go.Op.nilCheck (Go.Operand.tmp 14))) hF hS (by kernel_rfl) (by kernel_rfl) rfl (fun W hW => x_nil rfl) (by kernel_rfl) (by decide) fun a hF => ?_
    refine d_valg 14 16 8 (j := 6) (want := true) (op := (Go.Op.fieldAddr 126 (Go.Operand.tmp 15) 0)) hF hS (by kernel_rfl) (by kernel_rfl) rfl (fun W hW => x_fa0 fa59_0 rfl) (by kernel_rfl) (by decide) fun a hF => ?_
    refine d_valg 15 17 8 (j := 6) (want := true) (op := (Go.Op.load 3 (Go.Operand.tmp 16))) hF hS (by kernel_rfl) (by kernel_rfl) rfl (fun W hW => x_load rfl (m_load flat3 ((mg_d.k2 hW (by omega)).cell (j := 0) rfl))) (by kernel_rfl) (by decide) fun a hF => ?_
    refine d_oneg 11 8 (some 13) (Go.Op.call (Go.Call.mk (Go.Callee.value (Go.Operand.func 113)) #[(Go.Operand.tmp 12)] #[83])) (j := 6) (want := true) hF (by kernel_rfl) (by kernel_rfl) (by kernel_rfl) rfl fun ty pos af => ?_
    refine s_callS [_] hF (enters_of Try.func113 (by kernel_rfl) rfl) rfl (by decide) (max63 ks _ _ (by omega) (by omega) hLo (Rd.own hO)) fun a hF => ?_
    refine s_end ⟨hS, ?_⟩
    refine d_valg 16 18 8 (j := 6) (want := true) (op := (Go.Op.binOp Go.BinOp.geq 3 (Go.Operand.tmp 13) (Go.Operand.tmp 17) 3)) hF hS (by kernel_rfl) (by kernel_rfl) rfl (fun W hW => x_geq (b := true) (decide_eq_true (by omega)) rfl rfl) (by kernel_rfl) (by decide) fun a hF => ?_
    refine d_val 17 19 (op := (Go.Op.pick (Go.Operand.tmp 8) (Go.Operand.tmp 18) (Go.Operand.const (Go.Value.bool false)))) hF hS (by kernel_rfl) (fun W hW => x_pick (b := true) rfl rfl) (by kernel_rfl) (by decide) fun a hF => ?_
    refine d_end (by kernel_rfl) (hK3 _ _ ?_)
    refine wp_if hF rfl ?_
    refine wp_region_lit ?_
    refine s_val hF (x_move rfl) (by decide) fun a hF => ?_
    refine s_val hF (x_nil rfl) (by decide) fun a hF => ?_
    refine s_val hF (x_fa0 fa59_0 rfl) (by decide) fun a hF => ?_
    refine s_put hF rfl rfl flat3 mg (by simp) rfl fun w6 mg o7 => ?_
    have so7 := o7.size
    have hK := hK.only o7 (by omega)
    have hO := own_only hO o7 (hne)
    refine s_end ?_
    show bodyPost Try.prog Try.f128 (_) .normal a w6
    refine post_normal (res_none hF rfl ⟨_, rfl, ⟨rfl, ⟨by rw [hz]; exact mg, hO, hat, hne, by have := hK.size; omega⟩⟩, hK⟩)
  · have hz : setl c ks = c := by have := setl_is c ks; omega
    refine dk2_seq (w1.heap.size) (w1.heap.size) (ops := regOps Try.f128 0) (N := 18) (by kernel_rfl) wide_orders (by kernel_rfl) fun w8 hw8 B9 hS K4 hK4 => ?_
    have zw8 : w8.heap.size = w1.heap.size := by rw [hw8]
    have sB9 := B9.size
    have hK := hK.below B9
    have mg := mg.old B9
    have hO := own_below hO B9
    have mg_d := mg
    have hO_d := hO
    have hK_d := hK
    refine d_val 0 2 (op := (Go.Op.move (Go.Operand.tmp 0))) hF hS (by kernel_rfl) (fun W hW => x_move rfl) (by kernel_rfl) (by decide) fun a hF => ?_
    refine d_val 1 3 (op := (Go.Op.nilCheck (Go.Operand.tmp 2))) hF hS (by kernel_rfl) (fun W hW => x_nil rfl) (by kernel_rfl) (by decide) fun a hF => ?_
    refine d_val 2 4 (op := (Go.Op.fieldAddr 126 (Go.Operand.tmp 3) 1)) hF hS (by kernel_rfl) (fun W hW => x_fa0 fa59_1 rfl) (by kernel_rfl) (by decide) fun a hF => ?_
    refine d_val 3 5 (op := (Go.Op.load 83 (Go.Operand.tmp 4))) hF hS (by kernel_rfl) (fun W hW => x_load rfl (m_load flat29 ((mg_d.k2 hW (by omega)).cell (j := 1) rfl))) (by kernel_rfl) (by decide) fun a hF => ?_
    refine d_val 4 6 (op := (Go.Op.call (Go.Call.mk (Go.Callee.builtin Go.Builtin.len) #[(Go.Operand.tmp 5)] #[83]))) hF hS (by kernel_rfl) (fun W hW => x_len Try.underlying83 rfl) (by kernel_rfl) (by decide) fun a hF => ?_
    refine d_val 5 7 (op := (Go.Op.binOp Go.BinOp.gtr 3 (Go.Operand.tmp 6) (Go.Operand.const (Go.Value.int Go.IntKind.i64 0)) 3)) hF hS (by kernel_rfl) (fun W hW => x_gtr (b := true) (decide_eq_true (by omega)) rfl rfl) (by kernel_rfl) (by decide) fun a hF => ?_
    refine d_val 6 8 (op := (Go.Op.move (Go.Operand.tmp 7))) hF hS (by kernel_rfl) (fun W hW => x_move rfl) (by kernel_rfl) (by decide) fun a hF => ?_
    refine d_valg 7 9 8 (j := 6) (want := true) (op := (Go.Op.move (Go.Operand.tmp 0))) hF hS (by kernel_rfl) (by kernel_rfl) rfl (fun W hW => x_move rfl) (by kernel_rfl) (by decide) fun a hF => ?_
    refine d_valg 8 10 8 (j := 6) (want := true) (op := (Go.Op.nilCheck (Go.Operand.tmp 9))) hF hS (by kernel_rfl) (by kernel_rfl) rfl (fun W hW => x_nil rfl) (by kernel_rfl) (by decide) fun a hF => ?_
    refine d_valg 9 11 8 (j := 6) (want := true) (op := (Go.Op.fieldAddr 126 (Go.Operand.tmp 10) 1)) hF hS (by kernel_rfl) (by kernel_rfl) rfl (fun W hW => x_fa0 fa59_1 rfl) (by kernel_rfl) (by decide) fun a hF => ?_
    refine d_valg 10 12 8 (j := 6) (want := true) (op := (Go.Op.load 83 (Go.Operand.tmp 11))) hF hS (by kernel_rfl) (by kernel_rfl) rfl (fun W hW => x_load rfl (m_load flat29 ((mg_d.k2 hW (by omega)).cell (j := 1) rfl))) (by kernel_rfl) (by decide) fun a hF => ?_
    refine d_valg 12 14 8 (j := 6) (want := true) (op := (Go.Op.move (Go.Operand.tmp 0))) hF hS (by kernel_rfl) (by kernel_rfl) rfl (fun W hW => x_move rfl) (by kernel_rfl) (by decide) fun a hF => ?_
    refine d_valg 13 15 8 (j := 6) (want := true) (op := (Go.Op.nilCheck (Go.Operand.tmp 14))) hF hS (by kernel_rfl) (by kernel_rfl) rfl (fun W hW => x_nil rfl) (by kernel_rfl) (by decide) fun a hF => ?_
    refine d_valg 14 16 8 (j := 6) (want := true) (op := (Go.Op.fieldAddr 126 (Go.Operand.tmp 15) 0)) hF hS (by kernel_rfl) (by kernel_rfl) rfl (fun W hW => x_fa0 fa59_0 rfl) (by kernel_rfl) (by decide) fun a hF => ?_
    refine d_valg 15 17 8 (j := 6) (want := true) (op := (Go.Op.load 3 (Go.Operand.tmp 16))) hF hS (by kernel_rfl) (by kernel_rfl) rfl (fun W hW => x_load rfl (m_load flat3 ((mg_d.k2 hW (by omega)).cell (j := 0) rfl))) (by kernel_rfl) (by decide) fun a hF => ?_
    refine d_oneg 11 8 (some 13) (Go.Op.call (Go.Call.mk (Go.Callee.value (Go.Operand.func 113)) #[(Go.Operand.tmp 12)] #[83])) (j := 6) (want := true) hF (by kernel_rfl) (by kernel_rfl) (by kernel_rfl) rfl fun ty pos af => ?_
    refine s_callS [_] hF (enters_of Try.func113 (by kernel_rfl) rfl) rfl (by decide) (max63 ks _ _ (by omega) (by omega) hLo (Rd.own hO)) fun a hF => ?_
    refine s_end ⟨hS, ?_⟩
    refine d_valg 16 18 8 (j := 6) (want := true) (op := (Go.Op.binOp Go.BinOp.geq 3 (Go.Operand.tmp 13) (Go.Operand.tmp 17) 3)) hF hS (by kernel_rfl) (by kernel_rfl) rfl (fun W hW => x_geq (b := false) (decide_eq_false (by omega)) rfl rfl) (by kernel_rfl) (by decide) fun a hF => ?_
    refine d_val 17 19 (op := (Go.Op.pick (Go.Operand.tmp 8) (Go.Operand.tmp 18) (Go.Operand.const (Go.Value.bool false)))) hF hS (by kernel_rfl) (fun W hW => x_pick (b := true) rfl rfl) (by kernel_rfl) (by decide) fun a hF => ?_
    refine d_end (by kernel_rfl) (hK4 _ _ ?_)
    refine wp_if hF rfl ?_
    refine wp_skip ?_
    show bodyPost Try.prog Try.f128 (_) .normal a w8
    refine post_normal (res_none hF rfl ⟨_, rfl, ⟨rfl, ⟨by rw [hz]; exact mg, hO, hat, hne, by have := hK.size; omega⟩⟩, hK⟩)
end Go.Proofs.Ytgpciphjhnabcaa
