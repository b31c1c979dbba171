/- Inst; the reference's. -/
import Derived.Test.YtnnkggfhhkhnmaaLawB
namespace Go.Proofs.Ytnnkggfhhkhnmaa
open Go.RowKit Go.Shelf
set_option linter.unusedVariables false
set_option linter.unusedSimpArgs false

theorem rd_onlyZ {w w' : World} {c : Nat} {v : Value} {k n : Nat} {cs : List Value} (m : Rd w v k n cs) (h : Only c w w') (hb : ∀ j, v.ownBlock = some j → 0 < n → j ≠ c) : Rd w' v k n cs := by
  rcases Nat.eq_zero_or_pos n with h0 | h0
  · subst h0
    refine ⟨m.1, ?_⟩
    obtain ⟨a, cp, rfl, _, h2⟩ := m.form
    exact .inl ⟨a, cp, rfl, rfl, h2⟩
  · exact m.keep (Nat.le_of_eq h.size.symm) fun b hv hl => h.block b (hb b hv h0)

set_option maxRecDepth 100000 in
set_option maxHeartbeats 1600000 in
theorem raiseForm46g (base g o : Nat) (v : Value) (c : Int) (ks : List Int) (c2 : Int) (v2 : Value) (ls : List Int) (n : Int) (w1 : World) (hn0 : 0 ≤ n) (hn1 : n ≤ 1099511627776) (h20 : 0 ≤ c2) (h21 : c2 ≤ 1099511627776) (hkl : ks.length ≤ 1001) (hll : ls.length ≤ 1001) (hLo : Lo ls) (hHi : ∀ j, gt ls j ≤ 1099511627776) (hV : Rd w1 v2 1 ls.length (ints ls)) (hdis : ∀ j, v2.ownBlock = some j → j ≠ g ∧ j ≠ o) (hA : FA 59 base w1 g o v c ks) :
    Calls Try.prog 46 #[.pointer (some ⟨g, 0, none⟩), .agg [.int .i64 c2, v2].toArray, .int .i64 n] w1 fun e w' => ∃ u, e = .returned u ∧ (u = .tuple #[] ∧ ∃ v' o', FA 59 base w' g o' v' (max c (cut (n + c2))) (jn ks ls n ls.length) ∧ (o' = o ∨ w1.heap.size ≤ o')) ∧ Ktw g o w1 w' := by
  have hK := Ktw.refl g o w1
  have hlo := hA.lo
  have hgl := hA.lt
  have mg := hA.blk
  have hO := hA.own
  have hat := hA.at'
  have hne := hA.ne
  obtain ⟨av, cv, hve, _⟩ := hV.form
  rw [hve]
  refine calls_fs 37 [(0, .pointer (some ⟨g, 0, none⟩)), (1, .agg [.int .i64 c2, .slice av ls.length cv].toArray), (2, .int .i64 n)] Try.func46 rfl rfl rfl rfl rfl fun a hF => ?_
  refine wp_rs fun K1 hK1 => ?_
  refine s_box ([.int .i64 c2, .slice av ls.length cv]) hF (by decide) rfl rfl fun w2 b4 a eb4 m4 B3 zb4 hF => ?_
  have sB3 := B3.size
  have hK := hK.below B3
  have mg := mg.old B3
  have hO := own_below hO B3
  refine s_end (hK1 _ _ ?_)
  refine dk2_seq (g) (g) (ops := regOps Try.f46 1) (N := 13) (by kernel_rfl) wide_orders (by kernel_rfl) fun w4 hw4 B5 hS K2 hK2 => ?_
  have zw4 : w4.heap.size = w2.heap.size := by rw [hw4]
  have sB5 := B5.size
  have hK := hK.below B5
  have mg := mg.old B5
  have hO := own_below hO B5
  have m4 := m4.old B5
  have mg_d := mg
  have hO_d := hO
  have m4_d := m4
  have hK_d := hK
  refine d_val 0 8 (op := (Go.Op.move (Go.Operand.tmp 0))) hF hS (by kernel_rfl) (fun W hW => x_move rfl) (by kernel_rfl) (by decide) fun a hF => ?_
  refine d_val 1 9 (op := (Go.Op.move (Go.Operand.tmp 0))) hF hS (by kernel_rfl) (fun W hW => x_move rfl) (by kernel_rfl) (by decide) fun a hF => ?_
  refine d_val 2 10 (op := (Go.Op.nilCheck (Go.Operand.tmp 9))) hF hS (by kernel_rfl) (fun W hW => x_nil rfl) (by kernel_rfl) (by decide) fun a hF => ?_
  refine d_val 3 11 (op := (Go.Op.fieldAddr 59 (Go.Operand.tmp 10) 0)) hF hS (by kernel_rfl) (fun W hW => x_fa0 fa59_0 rfl) (by kernel_rfl) (by decide) fun a hF => ?_
  refine d_val 5 13 (op := (Go.Op.move (Go.Operand.tmp 2))) hF hS (by kernel_rfl) (fun W hW => x_move rfl) (by kernel_rfl) (by decide) fun a hF => ?_
  refine d_val 6 14 (op := (Go.Op.fieldAddr 59 (Go.Operand.tmp 4) 0)) hF hS (by kernel_rfl) (fun W hW => x_fa0 fa59_0 rfl) (by kernel_rfl) (by decide) fun a hF => ?_
  refine d_val 7 15 (op := (Go.Op.load 3 (Go.Operand.tmp 14))) hF hS (by kernel_rfl) (fun W hW => x_load rfl (m_load flat3 ((m4_d.k2 hW (by omega)).cell (j := 0) rfl))) (by kernel_rfl) (by decide) fun a hF => ?_
  refine d_two 4 8 (by kernel_rfl) ?_ ?_
  · refine d_op 4 (some 12) (Go.Op.load 3 (Go.Operand.tmp 11)) (by kernel_rfl) fun ty pos af => ?_
    refine s_val hF (x_load rfl (m_load flat3 (mg.cell (j := 0) rfl))) (by decide) fun a hF => ?_
    refine s_end ⟨hS, ?_⟩
    refine d_one 8 (some 16) (Go.Op.call (Go.Call.mk (Go.Callee.value (Go.Operand.func 54)) #[(Go.Operand.tmp 13), (Go.Operand.tmp 15)] #[3, 3])) (by kernel_rfl) (by kernel_rfl) fun ty pos af => ?_
    refine s_callS [_, _] hF (enters_of Try.func54 (by kernel_rfl) rfl) rfl (by decide) (sum54 _ _ (by omega) (by omega) (by omega) (by omega) _) fun a hF => ?_
    refine s_end ⟨hS, ?_⟩
    refine d_val 9 17 (op := (Go.Op.call (Go.Call.mk (Go.Callee.builtin Go.Builtin.max) #[(Go.Operand.tmp 12), (Go.Operand.tmp 16)] #[3, 3]))) hF hS (by kernel_rfl) (fun W hW => x_imax rfl rfl) (by kernel_rfl) (by decide) fun a hF => ?_
    refine d_val 10 18 (op := (Go.Op.nilCheck (Go.Operand.tmp 8))) hF hS (by kernel_rfl) (fun W hW => x_nil rfl) (by kernel_rfl) (by decide) fun a hF => ?_
    refine d_val 11 19 (op := (Go.Op.fieldAddr 59 (Go.Operand.tmp 18) 0)) hF hS (by kernel_rfl) (fun W hW => x_fa0 fa59_0 rfl) (by kernel_rfl) (by decide) fun a hF => ?_
    refine d_one 12 none (Go.Op.store 3 (Go.Operand.tmp 19) (Go.Operand.tmp 17)) (by kernel_rfl) (by kernel_rfl) fun ty pos af => ?_
    refine s_put hF rfl rfl flat3 mg (by first | (simp; done) | (show _ < 3; decide)) rfl fun w6 mg o7 => ?_
    have so7 := o7.size
    have hK := hK.only o7 (by omega)
    have hO := own_only hO o7 (hne)
    have m4 := m4.only o7 (by omega)
    have hS := hS.only o7 (by omega)
    refine s_end ⟨hS, ?_⟩
    refine d_end (by kernel_rfl) (hK2 _ _ ?_)
    refine wp_rs fun K3 hK3 => ?_
    refine s_val hF (x_fa0 fa59_1 rfl) (by decide) fun a hF => ?_
    refine s_val hF (x_load rfl (m_load flat29 (m4.cell (j := 1) rfl))) (by decide) fun a hF => ?_
    refine s_val hF (x_len Try.underlying29 rfl) (by decide) fun a hF => ?_
    refine s_val hF (x_move rfl) (by decide) fun a hF => ?_
    refine s_end (hK3 _ _ ?_)
    refine wp_block ?_
    refine wp_up ls.length (fun i a w => ∃ v' o', FA 59 base w g o' v' (max c (cut (n + c2))) (jn ks ls n i) ∧ (o' = o ∨ w1.heap.size ≤ o') ∧ Ktw g o w1 w ∧ Fs 37 a [(23, .int .i64 (i : Int)), (22, .int .i64 (ls.length : Int)), (21, .slice av ls.length cv), (0, .pointer (some ⟨g, 0, none⟩)), (2, .int .i64 n)]) ⟨v, o, ⟨mg, hO, hat, hne, by omega⟩, .inl rfl, hK, hF.sub _ rfl⟩ ?_
    repeat clear hF
    clear hK hA mg hO hat hne
    rintro i a w hi ⟨vv, o2, hA, ho2, hK, hF⟩ K' hK'
    have sK := hK.size
    have hlo2 := hA.lo
    have hgl2 := hA.lt
    have hjl := jn_len (L := ks) (G := ls) n i
    have hBw := Below.refl w.heap.size w
    refine wp_rs fun K4 hK4 => ?_
    refine s_val hF (x_lss rfl rfl rfl) (by decide) fun a hF => ?_
    refine s_end (hK4 _ _ ?_)
    refine wp_seq_k fun K5 hK5 => ?_
    refine wp_iff hF rfl (fun hc24 => ?_) (fun hc24 => ?_)
    · obtain ⟨b1, off1, c1, hve2, hrow⟩ := rd_rowI (hV.k2 hK hdis) (i := i) (by omega)
      rw [hve] at hve2
      cases hve2
      have hgi := hLo.gt i
      have hgh := hHi i
      refine wp_skip (hK5 _ _ ?_)
      refine wp_seq_k fun K6 hK6 => ?_
      refine wp_block ?_
      refine wp_rs fun K7 hK7 => ?_
      refine s_val hF (x_move rfl) (by decide) fun a hF => ?_
      refine s_val hF (x_ixa rfl rfl (m_ixs i Try.underlying29 el29.size rfl (by omega))) (by decide) fun a hF => ?_
      refine s_val hF (x_load rfl (m_load flat3 (hrow _ hBw))) (by decide) fun a hF => ?_
      refine s_val hF (x_assign rfl) (by decide) fun a hF => ?_
      refine s_val hF (x_assign rfl) (by decide) fun a hF => ?_
      refine s_end (hK7 _ _ ?_)
      refine wp_rs fun K8 hK8 => ?_
      refine s_val hF (x_move rfl) (by decide) fun a hF => ?_
      refine s_val hF (x_neq rfl rfl rfl) (by decide) fun a hF => ?_
      refine s_end (hK8 _ _ ?_)
      refine wp_iff hF rfl (fun hc29 => ?_) (fun hc29 => ?_)
      · have hj : jn ks ls n (i + 1) = up (jn ks ls n i) i (cut (n + gt ls i)) := by rw [jn, if_neg hc29]
        refine wp_region_lit ?_
        refine s_val hF (x_move rfl) (by decide) fun a hF => ?_
        refine s_val hF (x_move rfl) (by decide) fun a hF => ?_
        refine s_val hF (x_move rfl) (by decide) fun a hF => ?_
        refine s_val hF (x_move rfl) (by decide) fun a hF => ?_
        refine s_callS [_, _] hF (enters_of Try.func54 (by kernel_rfl) rfl) rfl (by decide) (sum54 _ _ (by omega) (by omega) (by omega) (by omega) _) fun a hF => ?_
        refine s_call (R := fun u w' => (u = .tuple #[] ∧ ∃ v' o', FA 59 base w' g o' v' (max c (cut (n + c2))) (up (jn ks ls n i) i (cut (n + gt ls i))) ∧ (o' = o2 ∨ w.heap.size ≤ o')) ∧ Ktw g o2 w w') hF [_, _, _] (enters_of Try.func48 (by kernel_rfl) rfl) rfl (by decide) (raiseVar48 base g o2 vv _ (jn ks ls n i) i (cut (n + gt ls i)) w hA (by omega) (by omega)) ?_
        rintro _ w8 a ⟨⟨rfl, v3, o3, hA, ho3⟩, k9⟩ hF
        have sk9 := k9.size
        have hK := hK.trans k9 (by omega)
        refine s_end (hK6 _ _ ?_)
        refine wp_region_lit ?_
        refine s_val hF (x_addn (i + 1) (by omega) (by omega) rfl rfl) (by decide) fun a hF => ?_
        refine s_val hF (x_move rfl) (by decide) fun a hF => ?_
        refine s_end (hK' _ _ (by omega) ⟨_, _, by rw [hj]; exact hA, by omega, hK, hF.sub _ rfl⟩)
      · have hj : jn ks ls n (i + 1) = jn ks ls n i := by rw [jn, if_pos (by omega)]
        refine wp_skip (hK6 _ _ ?_)
        refine wp_region_lit ?_
        refine s_val hF (x_addn (i + 1) (by omega) (by omega) rfl rfl) (by decide) fun a hF => ?_
        refine s_val hF (x_move rfl) (by decide) fun a hF => ?_
        refine s_end (hK' _ _ (by omega) ⟨_, _, by rw [hj]; exact hA, by omega, hK, hF.sub _ rfl⟩)
    · obtain rfl : i = ls.length := by omega
      refine wp_exit ?_
      show bodyPost Try.prog Try.f46 (fun e w' => ∃ u, e = .returned u ∧ (u = .tuple #[] ∧ ∃ v' o', FA 59 base w' g o' v' (max c (cut (n + c2))) (jn ks ls n ls.length) ∧ (o' = o ∨ w1.heap.size ≤ o')) ∧ Ktw g o w1 w') .normal a w
      refine post_normal (res_none hF rfl ⟨_, rfl, ⟨rfl, _, _, hA, ho2⟩, hK⟩)
  · refine d_op 8 (some 16) (Go.Op.call (Go.Call.mk (Go.Callee.value (Go.Operand.func 54)) #[(Go.Operand.tmp 13), (Go.Operand.tmp 15)] #[3, 3])) (by kernel_rfl) fun ty pos af => ?_
    refine s_callS [_, _] hF (enters_of Try.func54 (by kernel_rfl) rfl) rfl (by decide) (sum54 _ _ (by omega) (by omega) (by omega) (by omega) _) fun a hF => ?_
    refine s_end ⟨hS, ?_⟩
    refine d_one 4 (some 12) (Go.Op.load 3 (Go.Operand.tmp 11)) (by kernel_rfl) (by kernel_rfl) fun ty pos af => ?_
    refine s_val hF (x_load rfl (m_load flat3 (mg.cell (j := 0) rfl))) (by decide) fun a hF => ?_
    refine s_end ⟨hS, ?_⟩
    refine d_val 9 17 (op := (Go.Op.call (Go.Call.mk (Go.Callee.builtin Go.Builtin.max) #[(Go.Operand.tmp 12), (Go.Operand.tmp 16)] #[3, 3]))) hF hS (by kernel_rfl) (fun W hW => x_imax rfl rfl) (by kernel_rfl) (by decide) fun a hF => ?_
    refine d_val 10 18 (op := (Go.Op.nilCheck (Go.Operand.tmp 8))) hF hS (by kernel_rfl) (fun W hW => x_nil rfl) (by kernel_rfl) (by decide) fun a hF => ?_
    refine d_val 11 19 (op := (Go.Op.fieldAddr 59 (Go.Operand.tmp 18) 0)) hF hS (by kernel_rfl) (fun W hW => x_fa0 fa59_0 rfl) (by kernel_rfl) (by decide) fun a hF => ?_
    refine d_one 12 none (Go.Op.store 3 (Go.Operand.tmp 19) (Go.Operand.tmp 17)) (by kernel_rfl) (by kernel_rfl) fun ty pos af => ?_
    refine s_put hF rfl rfl flat3 mg (by first | (simp; done) | (show _ < 3; decide)) rfl fun w10 mg o11 => ?_
    have so11 := o11.size
    have hK := hK.only o11 (by omega)
    have hO := own_only hO o11 (hne)
    have m4 := m4.only o11 (by omega)
    have hS := hS.only o11 (by omega)
    refine s_end ⟨hS, ?_⟩
    refine d_end (by kernel_rfl) (hK2 _ _ ?_)
    refine wp_rs fun K9 hK9 => ?_
    refine s_val hF (x_fa0 fa59_1 rfl) (by decide) fun a hF => ?_
    refine s_val hF (x_load rfl (m_load flat29 (m4.cell (j := 1) rfl))) (by decide) fun a hF => ?_
    refine s_val hF (x_len Try.underlying29 rfl) (by decide) fun a hF => ?_
    refine s_val hF (x_move rfl) (by decide) fun a hF => ?_
    refine s_end (hK9 _ _ ?_)
    refine wp_block ?_
    refine wp_up ls.length (fun i a w => ∃ v' o', FA 59 base w g o' v' (max c (cut (n + c2))) (jn ks ls n i) ∧ (o' = o ∨ w1.heap.size ≤ o') ∧ Ktw g o w1 w ∧ Fs 37 a [(23, .int .i64 (i : Int)), (22, .int .i64 (ls.length : Int)), (21, .slice av ls.length cv), (0, .pointer (some ⟨g, 0, none⟩)), (2, .int .i64 n)]) ⟨v, o, ⟨mg, hO, hat, hne, by omega⟩, .inl rfl, hK, hF.sub _ rfl⟩ ?_
    repeat clear hF
    clear hK hA mg hO hat hne
    rintro i a w hi ⟨vv, o2, hA, ho2, hK, hF⟩ K' hK'
    have sK := hK.size
    have hlo2 := hA.lo
    have hgl2 := hA.lt
    have hjl := jn_len (L := ks) (G := ls) n i
    have hBw := Below.refl w.heap.size w
    refine wp_rs fun K10 hK10 => ?_
    refine s_val hF (x_lss rfl rfl rfl) (by decide) fun a hF => ?_
    refine s_end (hK10 _ _ ?_)
    refine wp_seq_k fun K11 hK11 => ?_
    refine wp_iff hF rfl (fun hc24 => ?_) (fun hc24 => ?_)
    · obtain ⟨b1, off1, c1, hve2, hrow⟩ := rd_rowI (hV.k2 hK hdis) (i := i) (by omega)
      rw [hve] at hve2
      cases hve2
      have hgi := hLo.gt i
      have hgh := hHi i
      refine wp_skip (hK11 _ _ ?_)
      refine wp_seq_k fun K12 hK12 => ?_
      refine wp_block ?_
      refine wp_rs fun K13 hK13 => ?_
      refine s_val hF (x_move rfl) (by decide) fun a hF => ?_
      refine s_val hF (x_ixa rfl rfl (m_ixs i Try.underlying29 el29.size rfl (by omega))) (by decide) fun a hF => ?_
      refine s_val hF (x_load rfl (m_load flat3 (hrow _ hBw))) (by decide) fun a hF => ?_
      refine s_val hF (x_assign rfl) (by decide) fun a hF => ?_
      refine s_val hF (x_assign rfl) (by decide) fun a hF => ?_
      refine s_end (hK13 _ _ ?_)
      refine wp_rs fun K14 hK14 => ?_
      refine s_val hF (x_move rfl) (by decide) fun a hF => ?_
      refine s_val hF (x_neq rfl rfl rfl) (by decide) fun a hF => ?_
      refine s_end (hK14 _ _ ?_)
      refine wp_iff hF rfl (fun hc29 => ?_) (fun hc29 => ?_)
      · have hj : jn ks ls n (i + 1) = up (jn ks ls n i) i (cut (n + gt ls i)) := by rw [jn, if_neg hc29]
        refine wp_region_lit ?_
        refine s_val hF (x_move rfl) (by decide) fun a hF => ?_
        refine s_val hF (x_move rfl) (by decide) fun a hF => ?_
        refine s_val hF (x_move rfl) (by decide) fun a hF => ?_
        refine s_val hF (x_move rfl) (by decide) fun a hF => ?_
        refine s_callS [_, _] hF (enters_of Try.func54 (by kernel_rfl) rfl) rfl (by decide) (sum54 _ _ (by omega) (by omega) (by omega) (by omega) _) fun a hF => ?_
        refine s_call (R := fun u w' => (u = .tuple #[] ∧ ∃ v' o', FA 59 base w' g o' v' (max c (cut (n + c2))) (up (jn ks ls n i) i (cut (n + gt ls i))) ∧ (o' = o2 ∨ w.heap.size ≤ o')) ∧ Ktw g o2 w w') hF [_, _, _] (enters_of Try.func48 (by kernel_rfl) rfl) rfl (by decide) (raiseVar48 base g o2 vv _ (jn ks ls n i) i (cut (n + gt ls i)) w hA (by omega) (by omega)) ?_
        rintro _ w12 a ⟨⟨rfl, v3, o3, hA, ho3⟩, k13⟩ hF
        have sk13 := k13.size
        have hK := hK.trans k13 (by omega)
        refine s_end (hK12 _ _ ?_)
        refine wp_region_lit ?_
        refine s_val hF (x_addn (i + 1) (by omega) (by omega) rfl rfl) (by decide) fun a hF => ?_
        refine s_val hF (x_move rfl) (by decide) fun a hF => ?_
        refine s_end (hK' _ _ (by omega) ⟨_, _, by rw [hj]; exact hA, by omega, hK, hF.sub _ rfl⟩)
      · have hj : jn ks ls n (i + 1) = jn ks ls n i := by rw [jn, if_pos (by omega)]
        refine wp_skip (hK12 _ _ ?_)
        refine wp_region_lit ?_
        refine s_val hF (x_addn (i + 1) (by omega) (by omega) rfl rfl) (by decide) fun a hF => ?_
        refine s_val hF (x_move rfl) (by decide) fun a hF => ?_
        refine s_end (hK' _ _ (by omega) ⟨_, _, by rw [hj]; exact hA, by omega, hK, hF.sub _ rfl⟩)
    · obtain rfl : i = ls.length := by omega
      refine wp_exit ?_
      show bodyPost Try.prog Try.f46 (fun e w' => ∃ u, e = .returned u ∧ (u = .tuple #[] ∧ ∃ v' o', FA 59 base w' g o' v' (max c (cut (n + c2))) (jn ks ls n ls.length) ∧ (o' = o ∨ w1.heap.size ≤ o')) ∧ Ktw g o w1 w') .normal a w
      refine post_normal (res_none hF rfl ⟨_, rfl, ⟨rfl, _, _, hA, ho2⟩, hK⟩)

set_option maxRecDepth 100000 in
set_option maxHeartbeats 1600000 in
theorem formOf38y (x : C3) (l : Lv) (w0 : World) (hL : RL w0 x l) : Calls Try.prog 38 #[lv x] w0 fun e w' => ∃ v, e = .returned v ∧ (∃ c vk ks, v = .tuple #[.agg [.int .i64 c, vk].toArray, .bool (decide (sndL l))] ∧ FF w0 x l w' c vk ks ∧ ∀ j, vk.ownBlock = some j → w0.heap.size ≤ j) ∧ Below w0.heap.size w0 w' := by
  have hB := Below.refl w0.heap.size w0
  have sB := hB.size
  refine calls_fs 13 [(0, lv x)] Try.func38 rfl rfl rfl rfl rfl fun a hF => ?_
  refine wp_rs fun K1 hK1 => ?_
  refine s_box (lc x) hF (by decide) rfl rfl fun w2 b1 a eb1 m1 B3 zb1 hF => ?_
  have sB3 := B3.size
  have hB := hB.trans (B3.mono hB.size)
  refine s_alloc hF (by decide) zero59 fun w4 b2 a eb2 m2 B5 zb2 hF => ?_
  have sB5 := B5.size
  have hB := hB.trans (B5.mono hB.size)
  have m1 := m1.old B5
  refine s_val hF (x_assign rfl) (by decide) fun a hF => ?_
  refine s_end (hK1 _ _ ?_)
  refine wp_seq_k fun K2 hK2 => ?_
  rcases (show decide (sndL l) = false ∨ decide (sndL l) = true by cases decide (sndL l) <;> simp) with hd | hd
  · have hn : ¬ sndL l := of_decide_eq_false hd
    refine wp_rs fun K4 hK4 => ?_
    refine s_val hF (x_ldW wide24 m1 rfl rfl) (by decide) fun a hF => ?_
    refine s_callB [_] hF (enters_of Try.func49 (by kernel_rfl) rfl) rfl (by decide) (isSound49 x l w4 (hL.old hB)) fun w6 a B7 hF => ?_
    have sB7 := B7.size
    have hB := hB.trans (B7.mono hB.size)
    have m1 := m1.old B7
    have m2 := m2.old B7
    rw [hd] at hF
    refine s_val hF (x_not rfl) (by decide) fun a hF => ?_
    refine s_end (hK4 _ _ ?_)
    refine wp_if hF rfl ?_
    refine wp_rs fun K5 hK5 => ?_
    refine s_val hF (x_build (vs := []) rfl (b59_ _)) (by decide) fun a hF => ?_
    refine s_putW hF rfl rfl (size_wide wide59) m2 rfl (one2 rfl) fun w8 m2 o9 => ?_
    have so9 := o9.size
    have hB := hB.trans (o9.below (by omega))
    have m1 := m1.only o9 (by omega)
    refine s_val hF (x_assign rfl) (by decide) fun a hF => ?_
    refine s_end (hK5 _ _ ?_)
    refine wp_ret (then_ret (res_ct hF rfl rfl m2 wide59 rfl ⟨_, rfl, ⟨_, _, [], by rw [hd], ⟨Rd.nil _ _, fun _ => ⟨rfl, rfl⟩, fun s hs hsg => absurd (rs_snd hL hs hsg) hn⟩, fun j h => by cases h⟩, hB⟩))
  · have hn : sndL l := of_decide_eq_true hd
    obtain ⟨s, hs, hsg⟩ := sound_sl hL hn
    refine wp_rs fun K6 hK6 => ?_
    refine s_val hF (x_ldW wide24 m1 rfl rfl) (by decide) fun a hF => ?_
    refine s_callB [_] hF (enters_of Try.func49 (by kernel_rfl) rfl) rfl (by decide) (isSound49 x l w4 (hL.old hB)) fun w10 a B11 hF => ?_
    have sB11 := B11.size
    have hB := hB.trans (B11.mono hB.size)
    have m1 := m1.old B11
    have m2 := m2.old B11
    rw [hd] at hF
    refine s_val hF (x_not rfl) (by decide) fun a hF => ?_
    refine s_end (hK6 _ _ ?_)
    refine wp_if hF rfl ?_
    refine wp_skip (hK2 _ _ ?_)
    refine wp_rs fun K7 hK7 => ?_
    refine s_alloc hF (by decide) zero59 fun w12 b4 a eb4 m4 B13 zb4 hF => ?_
    have sB13 := B13.size
    have hB := hB.trans (B13.mono hB.size)
    have m1 := m1.old B13
    have m2 := m2.old B13
    refine s_end (hK7 _ _ ?_)
    refine wp_rs fun K8 hK8 => ?_
    refine s_val hF (x_ldW wide24 m1 rfl rfl) (by decide) fun a hF => ?_
    have hA : FA 59 w0.heap.size w12 b4 b4 (.slice none 0 0) 0 [] := FA.start m4 (by omega)
    refine s_call (R := fun u w' => (u = .tuple #[] ∧ ∃ v' o', FA 59 w0.heap.size w' b4 o' v' (rc s 0 0) (nfK s) ∧ (o' = b4 ∨ w12.heap.size ≤ o')) ∧ Ktw b4 b4 w12 w') hF [_, _, _] (enters_of Try.func59 (by kernel_rfl) rfl) rfl (by decide) (raise59 w0 b4 s x hs hsg.2.2 0 b4 _ 0 [] w12 (by decide) (by decide) (by decide) (by decide) (by decide) hB hA) ?_
    rintro _ w14 a ⟨⟨rfl, v2, o2, hA, ho2⟩, k15⟩ hF
    have sk15 := k15.size
    have hB := k15.under hB (by omega)
    have m1 := m1.k2 k15 (by omega)
    have m2 := m2.k2 k15 (by omega)
    have hlo := hA.lo
    refine s_end (hK8 _ _ ?_)
    refine wp_rs fun K9 hK9 => ?_
    refine s_call (R := fun u w' => (u = .tuple #[] ∧ FA 59 w0.heap.size w' b4 o2 v2 (setl (rc s 0 0) (nfK s)) (nfK s)) ∧ Ktw b4 o2 w14 w') hF [_] (enters_of Try.func47 (by kernel_rfl) rfl) rfl (by decide) (settle47 w0.heap.size b4 o2 v2 _ (nfK s) w14 hA (by have := nfK_len s hsg; omega) (nfK_lo s) (rc_bd (by decide) (by decide) (by decide) (by decide)).1) ?_
    rintro _ w16 a ⟨⟨rfl, hA⟩, k17⟩ hF
    have sk17 := k17.size
    have hB := k17.under hB (by omega)
    have m1 := m1.k2 k17 (by omega)
    have m2 := m2.k2 k17 (by omega)
    rw [nfC_setl] at hA
    have m4 := hA.blk
    have hlo2 := hA.lo
    have h1v := hA.rd.one
    refine s_end (hK9 _ _ ?_)
    refine wp_rs fun K10 hK10 => ?_
    refine s_val hF (x_ldW wide59 m4 rfl rfl) (by decide) fun a hF => ?_
    refine s_putW hF rfl rfl (size_wide wide59) m2 rfl (one2 h1v) fun w18 m2 o19 => ?_
    have so19 := o19.size
    have hB := hB.trans (o19.below (by omega))
    have m1 := m1.only o19 (by omega)
    have hA := hA.only o19 (by omega)
    have m4 := m4.only o19 (by omega)
    refine s_val hF (x_assign rfl) (by decide) fun a hF => ?_
    refine s_end (hK10 _ _ ?_)
    refine wp_ret (res_ct hF rfl rfl m2 wide59 rfl ⟨_, rfl, ⟨_, v2, nfK s, by rw [hd], ⟨hA.rd, fun h => absurd hn h, fun s' hs' _ => by rw [RS.inj hs hs']; exact ⟨rfl, rfl⟩⟩, fun j h => (hA.own.lt j h).1⟩, hB⟩)

/-- A level with levels in the place of its variables, up to the ith. -/
def instT (c : Int) (ks : List Int) (τ : Nat → SL) : Nat → SL
  | 0 => .num c.toNat
  | i + 1 => if gt ks i = -1 then instT c ks τ i else .mx (instT c ks τ i) (.succ (gt ks i).toNat (τ i))
/-- One that takes a place and is not sound. -/
def bad (ls : List Lv) (K : List Int) (i : Nat) : Prop := i < K.length ∧ gt K i ≠ -1 ∧ ∃ l, ls[i]? = some l ∧ ¬ sndL l

set_option maxRecDepth 100000 in
set_option maxHeartbeats 1600000 in
theorem Inst27 (x : C3) (l : Lv) (xs : List C3) (ls : List Lv) (v : Value) (τ : Nat → SL) (w0 : World) (hL : RL w0 x l) (hV : Rd w0 v 3 xs.length (xs.flatMap lc)) (hls : xs.length = ls.length) (hl : ∀ (i : Nat) x l, xs[i]? = some x → ls[i]? = some l → RL w0 x l) (hτ : ∀ (i : Nat) x l, xs[i]? = some x → ls[i]? = some l → sndL l → RS w0 (τ i) x ∧ (τ i).good) (hτ2 : ∀ i, xs.length ≤ i → τ i = .var i) : Calls Try.prog 27 #[lv x, v] w0 fun e w' => ∃ u, e = .returned u ∧ (∃ z, u = lv z ∧ (¬ sndL l → z = (0, 0, .slice none 0 0)) ∧ ∀ s, RS w0 s x → s.good → ((∃ i, bad ls (nfK s) i) → z = (0, 0, .slice none 0 0)) ∧ ((¬ ∃ i, bad ls (nfK s) i) → RS w' (levF (nfC (instT (nfC s) (nfK s) τ (nfK s).length)) (nfK (instT (nfC s) (nfK s) τ (nfK s).length))) z)) ∧ Below w0.heap.size w0 w' := by
  obtain ⟨av, cv, rfl, _⟩ := hV.form
  have hB := Below.refl w0.heap.size w0
  have sB := hB.size
  refine calls_fs 60 [(0, lv x), (1, .slice av xs.length cv)] Try.func27 rfl rfl rfl rfl rfl fun a hF => ?_
  refine wp_rs fun K1 hK1 => ?_
  refine s_box (lc x) hF (by decide) rfl rfl fun w2 b2 a eb2 m2 B3 zb2 hF => ?_
  have sB3 := B3.size
  have hB := hB.trans (B3.mono hB.size)
  refine s_alloc hF (by decide) zero24 fun w4 b4 a eb4 m4 B5 zb4 hF => ?_
  have sB5 := B5.size
  have hB := hB.trans (B5.mono hB.size)
  have m2 := m2.old B5
  refine s_end (hK1 _ _ ?_)
  rcases (show decide (sndL l) = false ∨ decide (sndL l) = true by cases decide (sndL l) <;> simp) with hd | hd
  · have hn : ¬ sndL l := of_decide_eq_false hd
    refine wp_rs fun K3 hK3 => ?_
    refine s_val hF (x_ldW wide24 m2 rfl rfl) (by decide) fun a hF => ?_
    have hB9 := hB
    refine s_callR (R := fun v w' => ∃ c vk ks, v = .tuple #[.agg [.int .i64 c, vk].toArray, .bool (decide (sndL l))] ∧ FF w4 x l w' c vk ks) [_] hF (enters_of Try.func38 (by kernel_rfl) rfl) rfl (by decide) (formOf38 x l w4 (hL.old hB)) ?_
    rintro _ w6 a ⟨c1, vk1, ks1, rfl, hf1⟩ B7 hF
    have sB7 := B7.size
    have hB := hB.trans (B7.mono hB.size)
    have m2 := m2.old B7
    have m4 := m4.old B7
    have h1v1 := hf1.1.one
    rw [hd] at hF
    refine s_val hF (x_move rfl) (by decide) fun a hF => ?_
    refine s_val hF (x_ext rfl rfl) (by decide) fun a hF => ?_
    refine s_val hF (x_ext rfl rfl) (by decide) fun a hF => ?_
    refine s_alloc hF (by decide) zero59 fun w8 b5 a eb5 m5 B9 zb5 hF => ?_
    have sB9 := B9.size
    have hB := hB.trans (B9.mono hB.size)
    have m2 := m2.old B9
    have m4 := m4.old B9
    refine s_putW hF rfl rfl (size_wide wide59) m5 rfl (one2 h1v1) fun w10 m5 o11 => ?_
    have so11 := o11.size
    have hB := hB.trans (o11.below (by omega))
    have m2 := m2.only o11 (by omega)
    have m4 := m4.only o11 (by omega)
    refine s_val hF (x_assign rfl) (by decide) fun a hF => ?_
    refine s_end (hK3 _ _ ?_)
    refine wp_seq_k fun K4 hK4 => ?_
    refine wp_rs fun K5 hK5 => ?_
    refine s_val hF (x_move rfl) (by decide) fun a hF => ?_
    refine s_val hF (x_not rfl) (by decide) fun a hF => ?_
    refine s_end (hK5 _ _ ?_)
    refine wp_if hF rfl ?_
    refine wp_rs fun K6 hK6 => ?_
    refine s_val hF (x_build (vs := []) rfl (b24_ _)) (by decide) fun a hF => ?_
    refine s_putW hF rfl rfl (size_wide wide24) m4 rfl (one3 rfl) fun w12 m4 o13 => ?_
    have so13 := o13.size
    have hB := hB.trans (o13.below (by omega))
    have m2 := m2.only o13 (by omega)
    have m5 := m5.only o13 (by omega)
    refine s_end (hK6 _ _ ?_)
    refine wp_ret (then_ret (res_cell hF rfl rfl m4 wide24 ⟨_, rfl, ⟨(0, 0, .slice none 0 0), rfl, fun _ => rfl, fun s hs hsg => absurd (rs_snd hL hs hsg) hn⟩, hB⟩))
  · have hn : sndL l := of_decide_eq_true hd
    obtain ⟨s, hs, hsg⟩ := sound_sl hL hn
    have hsl := nfK_len s hsg
    refine wp_rs fun K7 hK7 => ?_
    refine s_val hF (x_ldW wide24 m2 rfl rfl) (by decide) fun a hF => ?_
    have hB9 := hB
    refine s_callR (R := fun v w' => ∃ c vk ks, v = .tuple #[.agg [.int .i64 c, vk].toArray, .bool (decide (sndL l))] ∧ FF w4 x l w' c vk ks) [_] hF (enters_of Try.func38 (by kernel_rfl) rfl) rfl (by decide) (formOf38 x l w4 (hL.old hB)) ?_
    rintro _ w14 a ⟨c1, vk1, ks1, rfl, hf1⟩ B15 hF
    have sB15 := B15.size
    have hB := hB.trans (B15.mono hB.size)
    have m2 := m2.old B15
    have m4 := m4.old B15
    have h1v1 := hf1.1.one
    rw [hd] at hF
    obtain ⟨rfl, rfl⟩ := hf1.2.2 s (RS.below hB9 hs) hsg
    obtain ⟨ak, ck, hvk, _⟩ := hf1.1.form
    subst hvk
    have hB1 := Below.refl w14.heap.size w14
    refine s_val hF (x_move rfl) (by decide) fun a hF => ?_
    refine s_val hF (x_ext rfl rfl) (by decide) fun a hF => ?_
    refine s_val hF (x_ext rfl rfl) (by decide) fun a hF => ?_
    refine s_alloc hF (by decide) zero59 fun w16 b5 a eb5 m5 B17 zb5 hF => ?_
    have sB17 := B17.size
    have hB := hB.trans (B17.mono hB.size)
    have hB1 := hB1.trans (B17.mono hB1.size)
    have m2 := m2.old B17
    have m4 := m4.old B17
    refine s_putW hF rfl rfl (size_wide wide59) m5 rfl (one2 h1v1) fun w18 m5 o19 => ?_
    have so19 := o19.size
    have hB := hB.trans (o19.below (by omega))
    have hB1 := hB1.trans (o19.below (by omega))
    have m2 := m2.only o19 (by omega)
    have m4 := m4.only o19 (by omega)
    refine s_val hF (x_assign rfl) (by decide) fun a hF => ?_
    refine s_end (hK7 _ _ ?_)
    refine wp_seq_k fun K8 hK8 => ?_
    refine wp_rs fun K9 hK9 => ?_
    refine s_val hF (x_move rfl) (by decide) fun a hF => ?_
    refine s_val hF (x_not rfl) (by decide) fun a hF => ?_
    refine s_end (hK9 _ _ ?_)
    refine wp_if hF rfl ?_
    refine wp_skip (hK8 _ _ ?_)
    refine wp_rs fun K10 hK10 => ?_
    refine s_val hF (x_fa0 fa59_0 rfl) (by decide) fun a hF => ?_
    refine s_val hF (x_load rfl (m_load flat3 (m5.cell (j := 0) rfl))) (by decide) fun a hF => ?_
    refine s_val hF (x_build (vs := [(0, _)]) rfl (b59_0 _ _)) (by decide) fun a hF => ?_
    refine s_alloc hF (by decide) zero59 fun w20 b7 a eb7 m7 B21 zb7 hF => ?_
    have sB21 := B21.size
    have hB := hB.trans (B21.mono hB.size)
    have hB1 := hB1.trans (B21.mono hB1.size)
    have m2 := m2.old B21
    have m4 := m4.old B21
    have m5 := m5.old B21
    refine s_putW hF rfl rfl (size_wide wide59) m7 rfl (one2 rfl) fun w22 m7 o23 => ?_
    have so23 := o23.size
    have hB := hB.trans (o23.below (by omega))
    have hB1 := hB1.trans (o23.below (by omega))
    have m2 := m2.only o23 (by omega)
    have m4 := m4.only o23 (by omega)
    have m5 := m5.only o23 (by omega)
    refine s_end (hK10 _ _ ?_)
    refine wp_seq_k fun K11 hK11 => ?_
    refine wp_rs fun K12 hK12 => ?_
    refine s_val hF (x_fa0 fa59_1 rfl) (by decide) fun a hF => ?_
    refine s_val hF (x_load rfl (m_load flat29 (m5.cell (j := 1) rfl))) (by decide) fun a hF => ?_
    refine s_val hF (x_len Try.underlying29 rfl) (by decide) fun a hF => ?_
    refine s_val hF (x_move rfl) (by decide) fun a hF => ?_
    refine s_end (hK12 _ _ ?_)
    refine wp_block ?_
    have hA7 := FA.start (base := w14.heap.size) m7 (by omega)
    have hbb : w0.heap.size ≤ b4 ∧ b4 < b5 ∧ b5 < b7 ∧ w14.heap.size ≤ b7 ∧ b4 < w14.heap.size := ⟨by omega, by omega, by omega, by omega, by omega⟩
    refine wp_up (nfK s).length (fun i a w => ∃ v' o' c L, FA 59 w14.heap.size w b7 o' v' c L ∧ IsF c L (instT (nfC s) (nfK s) τ i) ∧ L.length ≤ 1001 ∧ (o' = b7 ∨ b7 < o') ∧ (∀ j, j < i → ¬ bad ls (nfK s) j) ∧ Blk w b4 24 [.int .i64 0, .int .i64 0, .slice none 0 0] ∧ Below w0.heap.size w0 w ∧ Below w14.heap.size w14 w ∧ Fs 60 a [(26, .int .i64 (i : Int)), (25, .int .i64 ((nfK s).length : Int)), (24, .slice ak (nfK s).length ck), (1, .slice av xs.length cv), (4, .pointer (some ⟨b4, 0, none⟩)), (7, .pointer (some ⟨b7, 0, none⟩))]) ⟨_, b7, _, [], hA7, isF_start (nfC s) (nfC_nn s) (nfC_le s), by decide, .inl rfl, (fun j h => by omega), m4, hB, hB1, hF.sub _ rfl⟩ ?_
    repeat clear hF
    clear hB hB1 m4 hA7
    rintro i a w hi ⟨vv, o2, c, L, hA, hIF, hLl, ho2, hnb, m4, hB, hB1, hF⟩ K' hK'
    have sB := hB.size
    have sB1 := hB1.size
    have hlo := hA.lo
    have hgl := hA.lt
    have hc0 := hIF.nn
    have hc1 := hIF.hi
    refine wp_rs fun K13 hK13 => ?_
    refine s_val hF (x_lss (b := decide (i < (nfK s).length)) (decide_eq_decide.2 (by omega)) rfl rfl) (by decide) fun a hF => ?_
    refine s_end (hK13 _ _ ?_)
    refine wp_seq_k fun K14 hK14 => ?_
    refine wp_iff hF rfl (fun hc27 => ?_) (fun hc27 => ?_)
    · obtain ⟨b8, off8, c8, hve, hrow⟩ := rd_rowI hf1.1 (i := i) (by omega)
      cases hve
      have hgi := (nfK_lo s).gt i
      have hgh := nfK_hi s i
      refine wp_skip (hK14 _ _ ?_)
      refine wp_seq_k fun K15 hK15 => ?_
      refine wp_block ?_
      refine wp_rs fun K16 hK16 => ?_
      refine s_val hF (x_move rfl) (by decide) fun a hF => ?_
      refine s_val hF (x_ixa rfl rfl (m_ixs i Try.underlying29 el29.size rfl (by omega))) (by decide) fun a hF => ?_
      refine s_val hF (x_load rfl (m_load flat3 (hrow _ hB1))) (by decide) fun a hF => ?_
      refine s_val hF (x_assign rfl) (by decide) fun a hF => ?_
      refine s_val hF (x_assign rfl) (by decide) fun a hF => ?_
      refine s_end (hK16 _ _ ?_)
      refine wp_block ?_
      rcases (show gt (nfK s) i = -1 ∨ (gt (nfK s) i ≠ -1 ∧ xs.length ≤ i) ∨ (gt (nfK s) i ≠ -1 ∧ i < xs.length) by omega) with hg | ⟨hc45, hg⟩ | ⟨hc45, hg⟩
      · have hnb2 : ∀ j, j < i + 1 → ¬ bad ls (nfK s) j := by
          intro j hj hb
          rcases Nat.lt_or_ge j i with h | h
          · exact hnb j h hb
          · have hji : j = i := by omega
            subst hji
            exact hb.2.1 hg
        have hIF2 : IsF c L (instT (nfC s) (nfK s) τ (i + 1)) := by rw [instT, if_pos hg]; exact hIF
        have hLl2 := hLl
        have ho3 : o2 = o2 ∨ w.heap.size ≤ o2 := .inl rfl
        refine wp_rs fun K18 hK18 => ?_
        refine s_val hF (x_move rfl) (by decide) fun a hF => ?_
        refine s_val hF (x_eql (b := true) (decide_eq_true (by omega)) rfl rfl) (by decide) fun a hF => ?_
        refine s_val hF (x_assign rfl) (by decide) fun a hF => ?_
        refine s_end (hK18 _ _ ?_)
        refine wp_if hF rfl ?_
        refine wp_skip (hK15 _ _ ?_)
        refine wp_region_lit ?_
        refine s_val hF (x_addn (i + 1) (by omega) (by omega) rfl rfl) (by decide) fun a hF => ?_
        refine s_val hF (x_move rfl) (by decide) fun a hF => ?_
        refine s_end (hK' _ _ (by omega) ⟨_, _, _, _, hA, hIF2, hLl2, by omega, hnb2, m4, hB, hB1, hF.sub _ rfl⟩)
      · have hstep : instT (nfC s) (nfK s) τ (i + 1) = .mx (instT (nfC s) (nfK s) τ i) (.succ (gt (nfK s) i).toNat (τ i)) := by rw [instT, if_neg hc45]
        have hnb2 : ∀ j, j < i + 1 → ¬ bad ls (nfK s) j := by
          intro j hj hb
          rcases Nat.lt_or_ge j i with h | h
          · exact hnb j h hb
          · have hji : j = i := by omega
            subst hji
            exact by obtain ⟨_, _, l9, h9, _⟩ := hb; have := (List.getElem?_eq_some_iff.1 h9).1; omega
        refine wp_rs fun K19 hK19 => ?_
        refine s_val hF (x_move rfl) (by decide) fun a hF => ?_
        refine s_val hF (x_eql (b := false) (decide_eq_false (by omega)) rfl rfl) (by decide) fun a hF => ?_
        refine s_val hF (x_assign rfl) (by decide) fun a hF => ?_
        refine s_end (hK19 _ _ ?_)
        refine wp_if hF rfl ?_
        refine wp_rs fun K20 hK20 => ?_
        refine s_val hF (x_move rfl) (by decide) fun a hF => ?_
        refine s_val hF (x_move rfl) (by decide) fun a hF => ?_
        refine s_val hF (x_len Try.underlying22 rfl) (by decide) fun a hF => ?_
        refine s_val hF (x_geq (b := true) (decide_eq_true (by omega)) rfl rfl) (by decide) fun a hF => ?_
        refine s_val hF (x_assign rfl) (by decide) fun a hF => ?_
        refine s_end (hK20 _ _ ?_)
        refine wp_if hF rfl ?_
        refine wp_region_lit ?_
        refine s_val hF (x_move rfl) (by decide) fun a hF => ?_
        refine s_val hF (x_move rfl) (by decide) fun a hF => ?_
        refine s_call (R := fun u w' => (u = .tuple #[] ∧ ∃ v' o', FA 59 w14.heap.size w' b7 o' v' c (up L i (gt (nfK s) i)) ∧ (o' = o2 ∨ w.heap.size ≤ o')) ∧ Ktw b7 o2 w w') hF [_, _, _] (enters_of Try.func48 (by kernel_rfl) rfl) rfl (by decide) (raiseVar48 w14.heap.size b7 o2 vv c L i (gt (nfK s) i) w hA (by omega) (by omega)) ?_
        rintro _ w24 a ⟨⟨rfl, v3, o3, hA, ho3⟩, k25⟩ hF
        have sk25 := k25.size
        have hB := k25.under hB (by omega)
        have hB1 := k25.under hB1 (by omega)
        have m4 := m4.k2 k25 (by omega)
        have hIF2 := isF_var hIF i (gt (nfK s) i).toNat (by omega)
        rw [show (((gt (nfK s) i).toNat : Nat) : Int) = gt (nfK s) i by omega, ← hτ2 i (by omega), ← hstep] at hIF2
        have hLl2 : (up L i (gt (nfK s) i)).length ≤ 1001 := by rw [up_len]; omega
        refine s_end (hK15 _ _ ?_)
        refine wp_region_lit ?_
        refine s_val hF (x_addn (i + 1) (by omega) (by omega) rfl rfl) (by decide) fun a hF => ?_
        refine s_val hF (x_move rfl) (by decide) fun a hF => ?_
        refine s_end (hK' _ _ (by omega) ⟨_, _, _, _, hA, hIF2, hLl2, by omega, hnb2, m4, hB, hB1, hF.sub _ rfl⟩)
      · have hstep : instT (nfC s) (nfK s) τ (i + 1) = .mx (instT (nfC s) (nfK s) τ i) (.succ (gt (nfK s) i).toNat (τ i)) := by rw [instT, if_neg hc45]
        obtain ⟨b6, off6, c6, y, hve, hy, hrowv⟩ := rd_row3 hV (i := i) hg
        cases hve
        obtain ⟨ly, hli⟩ : ∃ ly, ls[i]? = some ly := ⟨_, List.getElem?_eq_getElem (by omega)⟩
        have hyl := hl i y ly hy hli
        have hi1 : i < (nfK s).length := hc27
        refine wp_rs fun K21 hK21 => ?_
        refine s_val hF (x_move rfl) (by decide) fun a hF => ?_
        refine s_val hF (x_eql (b := false) (decide_eq_false (by omega)) rfl rfl) (by decide) fun a hF => ?_
        refine s_val hF (x_assign rfl) (by decide) fun a hF => ?_
        refine s_end (hK21 _ _ ?_)
        refine wp_if hF rfl ?_
        refine wp_rs fun K22 hK22 => ?_
        refine s_val hF (x_move rfl) (by decide) fun a hF => ?_
        refine s_val hF (x_move rfl) (by decide) fun a hF => ?_
        refine s_val hF (x_len Try.underlying22 rfl) (by decide) fun a hF => ?_
        refine s_val hF (x_geq (b := false) (decide_eq_false (by omega)) rfl rfl) (by decide) fun a hF => ?_
        refine s_val hF (x_assign rfl) (by decide) fun a hF => ?_
        refine s_end (hK22 _ _ ?_)
        refine wp_if hF rfl ?_
        rcases (show decide (sndL ly) = false ∨ decide (sndL ly) = true by cases decide (sndL ly) <;> simp) with hd2 | hd2
        · have hnl : ¬ sndL ly := of_decide_eq_false hd2
          refine wp_rs fun K24 hK24 => ?_
          refine s_val hF (x_move rfl) (by decide) fun a hF => ?_
          refine s_val hF (x_move rfl) (by decide) fun a hF => ?_
          refine s_val hF (x_ixa rfl rfl (m_ixsK i Try.underlying22 el22.size rfl (by omega))) (by decide) fun a hF => ?_
          refine s_val hF (x_ldA wide24 (hrowv _ hB) rfl rfl) (by decide) fun a hF => ?_
          have hB8 := hB
          refine s_callR (R := fun v w' => ∃ c vk ks, v = .tuple #[.agg [.int .i64 c, vk].toArray, .bool (decide (sndL ly))] ∧ FF w y ly w' c vk ks ∧ ∀ j, vk.ownBlock = some j → w.heap.size ≤ j) [_] hF (enters_of Try.func38 (by kernel_rfl) rfl) rfl (by decide) (formOf38y y ly w (hyl.old hB)) ?_
          rintro _ w26 a ⟨c2, vk2, ks2, rfl, hf2, hyo⟩ B27 hF
          have sB27 := B27.size
          have hB := hB.trans (B27.mono hB.size)
          have hB1 := hB1.trans (B27.mono hB1.size)
          have m4 := m4.old B27
          have hA := hA.below B27
          have h1v2 := hf2.1.one
          rw [hd2] at hF
          have hV2 := hf2.1
          have hV2q : ∀ j, vk2.ownBlock = some j → 0 < ks2.length → j < w26.heap.size := fun j h h0 => hV2.lt h0 h
          refine s_val hF (x_move rfl) (by decide) fun a hF => ?_
          refine s_val hF (x_ext rfl rfl) (by decide) fun a hF => ?_
          refine s_val hF (x_ext rfl rfl) (by decide) fun a hF => ?_
          refine s_alloc hF (by decide) zero59 fun w28 b10 a eb10 m10 B29 zb10 hF => ?_
          have sB29 := B29.size
          have hB := hB.trans (B29.mono hB.size)
          have hB1 := hB1.trans (B29.mono hB1.size)
          have m4 := m4.old B29
          have hA := hA.below B29
          have hV2 := hV2.below B29
          refine s_putW hF rfl rfl (size_wide wide59) m10 rfl (one2 h1v2) fun w30 m10 o31 => ?_
          have so31 := o31.size
          have hB := hB.trans (o31.below (by omega))
          have hB1 := hB1.trans (o31.below (by omega))
          have m4 := m4.only o31 (by omega)
          have hA := hA.only o31 (by omega)
          have hV2 := rd_onlyZ hV2 o31 (fun j h hp => by have := hV2q j h hp; omega)
          refine s_val hF (x_assign rfl) (by decide) fun a hF => ?_
          refine s_end (hK24 _ _ ?_)
          refine wp_seq_k fun K25 hK25 => ?_
          refine wp_rs fun K26 hK26 => ?_
          refine s_val hF (x_move rfl) (by decide) fun a hF => ?_
          refine s_val hF (x_not rfl) (by decide) fun a hF => ?_
          refine s_end (hK26 _ _ ?_)
          refine wp_if hF rfl ?_
          refine wp_rs fun K27 hK27 => ?_
          refine s_val hF (x_build (vs := []) rfl (b24_ _)) (by decide) fun a hF => ?_
          refine s_putW hF rfl rfl (size_wide wide24) m4 rfl (one3 rfl) fun w32 m4 o33 => ?_
          have so33 := o33.size
          have hB := hB.trans (o33.below (by omega))
          have hA := hA.only o33 (by omega)
          have m10 := m10.only o33 (by omega)
          refine s_end (hK27 _ _ ?_)
          refine wp_ret (then_ret (inb_ret (inb_ret (then_ret (then_ret (inb_ret (then_ret (res_cell hF rfl rfl m4 wide24 ⟨_, rfl, ⟨(0, 0, .slice none 0 0), rfl, fun _ => rfl, fun s' hs' _ => ?_⟩, hB⟩))))))))
          obtain rfl := RS.inj hs hs'
          exact ⟨fun _ => rfl, fun h => absurd ⟨i, hi1, hc45, _, hli, hnl⟩ h⟩
        · have hnl : sndL ly := of_decide_eq_true hd2
          have hti := hτ i y ly hy hli hnl
          have hnb2 : ∀ j, j < i + 1 → ¬ bad ls (nfK s) j := by
            intro j hj hb
            rcases Nat.lt_or_ge j i with h | h
            · exact hnb j h hb
            · have hji : j = i := by omega
              subst hji
              exact by obtain ⟨_, _, l9, h9, h10⟩ := hb; rw [hli] at h9; cases h9; exact h10 hnl
          refine wp_rs fun K28 hK28 => ?_
          refine s_val hF (x_move rfl) (by decide) fun a hF => ?_
          refine s_val hF (x_move rfl) (by decide) fun a hF => ?_
          refine s_val hF (x_ixa rfl rfl (m_ixsK i Try.underlying22 el22.size rfl (by omega))) (by decide) fun a hF => ?_
          refine s_val hF (x_ldA wide24 (hrowv _ hB) rfl rfl) (by decide) fun a hF => ?_
          have hB8 := hB
          refine s_callR (R := fun v w' => ∃ c vk ks, v = .tuple #[.agg [.int .i64 c, vk].toArray, .bool (decide (sndL ly))] ∧ FF w y ly w' c vk ks ∧ ∀ j, vk.ownBlock = some j → w.heap.size ≤ j) [_] hF (enters_of Try.func38 (by kernel_rfl) rfl) rfl (by decide) (formOf38y y ly w (hyl.old hB)) ?_
          rintro _ w34 a ⟨c2, vk2, ks2, rfl, hf2, hyo⟩ B35 hF
          have sB35 := B35.size
          have hB := hB.trans (B35.mono hB.size)
          have hB1 := hB1.trans (B35.mono hB1.size)
          have m4 := m4.old B35
          have hA := hA.below B35
          have h1v2 := hf2.1.one
          rw [hd2] at hF
          have hV2 := hf2.1
          obtain ⟨rfl, rfl⟩ := hf2.2.2 (τ i) (RS.below hB8 hti.1) hti.2
          have hV2q : ∀ j, vk2.ownBlock = some j → 0 < (nfK (τ i)).length → j < w34.heap.size := fun j h h0 => hV2.lt h0 h
          refine s_val hF (x_move rfl) (by decide) fun a hF => ?_
          refine s_val hF (x_ext rfl rfl) (by decide) fun a hF => ?_
          refine s_val hF (x_ext rfl rfl) (by decide) fun a hF => ?_
          refine s_alloc hF (by decide) zero59 fun w36 b10 a eb10 m10 B37 zb10 hF => ?_
          have sB37 := B37.size
          have hB := hB.trans (B37.mono hB.size)
          have hB1 := hB1.trans (B37.mono hB1.size)
          have m4 := m4.old B37
          have hA := hA.below B37
          have hV2 := hV2.below B37
          refine s_putW hF rfl rfl (size_wide wide59) m10 rfl (one2 h1v2) fun w38 m10 o39 => ?_
          have so39 := o39.size
          have hB := hB.trans (o39.below (by omega))
          have hB1 := hB1.trans (o39.below (by omega))
          have m4 := m4.only o39 (by omega)
          have hA := hA.only o39 (by omega)
          have hV2 := rd_onlyZ hV2 o39 (fun j h hp => by have := hV2q j h hp; omega)
          refine s_val hF (x_assign rfl) (by decide) fun a hF => ?_
          refine s_end (hK28 _ _ ?_)
          refine wp_seq_k fun K29 hK29 => ?_
          refine wp_rs fun K30 hK30 => ?_
          refine s_val hF (x_move rfl) (by decide) fun a hF => ?_
          refine s_val hF (x_not rfl) (by decide) fun a hF => ?_
          refine s_end (hK30 _ _ ?_)
          refine wp_if hF rfl ?_
          refine wp_skip (hK29 _ _ ?_)
          refine wp_region_lit ?_
          refine s_val hF (x_ldW wide59 m10 rfl rfl) (by decide) fun a hF => ?_
          refine s_val hF (x_move rfl) (by decide) fun a hF => ?_
          refine s_call (R := fun u w' => (u = .tuple #[] ∧ ∃ v' o', FA 59 w14.heap.size w' b7 o' v' (max c (cut (gt (nfK s) i + nfC (τ i)))) (jn L (nfK (τ i)) (gt (nfK s) i) (nfK (τ i)).length) ∧ (o' = o2 ∨ w38.heap.size ≤ o')) ∧ Ktw b7 o2 w38 w') hF [_, _, _] (enters_of Try.func46 (by kernel_rfl) rfl) rfl (by decide) (raiseForm46g w14.heap.size b7 o2 vv c L (nfC (τ i)) vk2 (nfK (τ i)) (gt (nfK s) i) w38 (by omega) (by omega) (nfC_nn _) (nfC_le _) hLl (nfK_len _ hti.2) (nfK_lo _) (nfK_hi _) hV2 (fun j h => by have := hyo j h; omega) hA) ?_
          rintro _ w40 a ⟨⟨rfl, v3, o3, hA, ho3⟩, k41⟩ hF
          have sk41 := k41.size
          have hB := k41.under hB (by omega)
          have hB1 := k41.under hB1 (by omega)
          have m4 := m4.k2 k41 (by omega)
          have m10 := m10.k2 k41 (by omega)
          have hIF2 := isF_form hIF (τ i) (gt (nfK s) i).toNat
          rw [show (((gt (nfK s) i).toNat : Nat) : Int) = gt (nfK s) i by omega, ← hstep] at hIF2
          have hLl2 : (jn L (nfK (τ i)) (gt (nfK s) i) (nfK (τ i)).length).length ≤ 1001 := by have := jn_len (L := L) (G := nfK (τ i)) (gt (nfK s) i) (nfK (τ i)).length; have := nfK_len _ hti.2; omega
          refine s_end (hK15 _ _ ?_)
          refine wp_region_lit ?_
          refine s_val hF (x_addn (i + 1) (by omega) (by omega) rfl rfl) (by decide) fun a hF => ?_
          refine s_val hF (x_move rfl) (by decide) fun a hF => ?_
          refine s_end (hK' _ _ (by omega) ⟨_, _, _, _, hA, hIF2, hLl2, by omega, hnb2, m4, hB, hB1, hF.sub _ rfl⟩)
    · obtain rfl : i = (nfK s).length := by omega
      refine wp_exit (hK11 _ _ ?_)
      refine wp_rs fun K31 hK31 => ?_
      rw [hIF.ks] at hA
      refine s_call (R := fun u w' => (u = .tuple #[] ∧ FA 59 w14.heap.size w' b7 o2 vv (setl c (nfK (instT (nfC s) (nfK s) τ (nfK s).length))) (nfK (instT (nfC s) (nfK s) τ (nfK s).length))) ∧ Ktw b7 o2 w w') hF [_] (enters_of Try.func47 (by kernel_rfl) rfl) rfl (by decide) (settle47 w14.heap.size b7 o2 vv c _ w hA (by rw [← hIF.ks]; omega) (nfK_lo _) hc0) ?_
      rintro _ w42 a ⟨⟨rfl, hA⟩, k43⟩ hF
      have sk43 := k43.size
      have hB := k43.under hB (by omega)
      have hB1 := k43.under hB1 (by omega)
      have m4 := m4.k2 k43 (by omega)
      rw [show setl c (nfK (instT (nfC s) (nfK s) τ (nfK s).length)) = nfC (instT (nfC s) (nfK s) τ (nfK s).length) from (by have := hIF.set; rw [hIF.ks] at this; exact this)] at hA
      have m7 := hA.blk
      refine s_end (hK31 _ _ ?_)
      refine wp_rs fun K32 hK32 => ?_
      refine s_val hF (x_ldW wide59 m7 rfl rfl) (by decide) fun a hF => ?_
      refine s_callR (R := fun u w' => ∃ z, u = lv z ∧ RSn w' (fun k => w42.heap.size ≤ k) (levF (nfC (instT (nfC s) (nfK s) τ (nfK s).length)) (nfK (instT (nfC s) (nfK s) τ (nfK s).length))) z) [_] hF (enters_of Try.func41 (by kernel_rfl) rfl) rfl (by decide) (level41 _ _ vv w42 (nfC_nn _) (by rw [← hIF.ks]; exact hLl) (nfK_lo _) (nfK_tm _) hA.rd) ?_
      rintro _ w44 a ⟨z, rfl, hz⟩ B45 hF
      have sB45 := B45.size
      have hB := hB.trans (B45.mono hB.size)
      have hB1 := hB1.trans (B45.mono hB1.size)
      have m4 := m4.old B45
      have hA := hA.below B45
      have m7 := m7.old B45
      have h1z := hz.rs.one1
      refine s_putW hF rfl rfl (size_wide wide24) m4 rfl (one_lc h1z) fun w46 m4 o47 => ?_
      have so47 := o47.size
      have hB := hB.trans (o47.below (by omega))
      have hA := hA.only o47 (by omega)
      have m7 := m7.only o47 (by omega)
      have hz := hz.only o47 (fun k (hk : w42.heap.size ≤ k) => by omega)
      refine s_end (hK32 _ _ ?_)
      refine wp_ret (res_cell hF rfl rfl m4 wide24 ⟨_, rfl, ⟨z, rfl, fun h => absurd hn h, fun s' hs' _ => ?_⟩, hB⟩)
      obtain rfl := RS.inj hs hs'
      exact ⟨fun ⟨j, hj⟩ => absurd hj (hnb j hj.1), fun _ => hz.rs⟩
end Go.Proofs.Ytnnkggfhhkhnmaa
