/- Inst; the reference's. -/
import Derived.Test.YtbhhbfdoadecgaaPureM
import Derived.Test.YtbhhbfdoadecgaaTerm39
import Derived.Test.YtbhhbfdoadecgaaLev1
import Derived.ProofKit
import Derived.Deep.Slices
import Derived.ChangeSame
import Derived.ChangeArms
import Derived.SizedLaws
import Derived.Deep.Strs
namespace Go.Proofs.Ytbhhbfdoadecgaa
set_option maxRecDepth 100000
set_option maxHeartbeats 1600000
open Go.RowKit Go.Shelf
set_option linter.unusedVariables false
set_option linter.unusedSimpArgs false
theorem rd_onlyZ {w w' : World} {c : Nat} {v : Value} {k n : Nat} {cs : List Value} (m : Rd w v k n cs) (h : Only c w w') (hb : ∀ j, v.ownBlock = some j → 0 < n → j ≠ c) : Rd w' v k n cs := by
 rcases Nat.eq_zero_or_pos n with h0 | h0
 ·
  subst h0
  refine ⟨m.1, ?_⟩
  obtain ⟨a, cp, rfl, _, h2⟩ := m.form
  exact .inl ⟨a, cp, rfl, rfl, h2⟩
 ·
  exact m.keep (Nat.le_of_eq h.size.symm) fun b hv hl => h.block b (hb b hv h0)
theorem raiseForm46g (base g o : Nat) (v : Value) (c : Int) (ks : List Int) (c2 : Int) (v2 : Value) (ls : List Int) (n : Int) (w1 : World) (hn0 : 0 ≤ n) (hn1 : n ≤ 1099511627776) (h20 : 0 ≤ c2) (h21 : c2 ≤ 1099511627776) (hkl : ks.length ≤ 1001) (hll : ls.length ≤ 1001) (hLo : Lo ls) (hHi : ∀ j, gt ls j ≤ 1099511627776) (hV : Rd w1 v2 1 ls.length (ints ls)) (hdis : ∀ j, v2.ownBlock = some j → j ≠ g ∧ j ≠ o) (hA : FA 126 base w1 g o v c ks) :
    Calls Try.prog 108 #[.pointer (some ⟨g, 0, none⟩), .agg [.int .i64 c2, v2].toArray, .int .i64 n] w1 fun e w' => ∃ u, e = .returned u ∧ (u = .tuple #[] ∧ ∃ v' o', FA 126 base w' g o' v' (max c (cut (n + c2))) (jn ks ls n ls.length) ∧ (o' = o ∨ w1.heap.size ≤ o')) ∧ Ktw g o w1 w' := by
  have hK := Ktw.refl g o w1
  have hlo := hA.lo
  have hgl := hA.lt
  have mg := hA.blk
  have hO := hA.own
  have hat := hA.at'
  have hne := hA.ne
  obtain ⟨av, cv, hve, _⟩ := hV.form
  rw [hve]
  refine calls_fs 37 [(0, .pointer (some ⟨g, 0, none⟩)), (1, .agg [.int .i64 c2, .slice av ls.length cv].toArray), (2, .int .i64 n)] Try.func108 rfl rfl rfl rfl rfl fun a F => ?_
  refine wp_rs fun _ K1 => ?_
  refine s_box ([.int .i64 c2, .slice av ls.length cv]) F (by decide) rfl rfl fun w2 b4 a eb4 m4 B3 zb4 F => ?_
  have sB3 := B3.size
  have hK := hK.below B3
  have mg := mg.old B3
  have hO := own_below hO B3
  refine s_end (K1 _ _ ?_)
  refine dk2_seq (g) (g) (ops := regOps Try.f108 1) (N := 13) (by kernel_rfl) wide_orders (by kernel_rfl) fun w4 hw4 B5 hS K2 K2 => ?_
  have zw4 : w4.heap.size = w2.heap.size := by rw [hw4]
  have sB5 := B5.size
  have hK := hK.below B5
  have mg := mg.old B5
  have hO := own_below hO B5
  have m4 := m4.old B5
  have mg_d := mg
  have hO_d := hO
  have m4_d := m4
  have hK_d := hK
  refine F.dv 0 8 (.move (.tmp 0)) hS (fun W hW => x_move rfl) fun a F => F.dv 1 9 (.move (.tmp 0)) hS (fun W hW => x_move rfl) fun a F => F.dv 2 10 (.nilCheck (.tmp 9)) hS (fun W hW => x_nil rfl) fun a F => F.dv 3 11 (.fieldAddr 126 (.tmp 10) 0) hS (fun W hW => x_fa0 fa59_0 rfl) fun a F => F.dv 5 13 (.move (.tmp 2)) hS (fun W hW => x_move rfl) fun a F => F.dv 6 14 (.fieldAddr 126 (.tmp 4) 0) hS (fun W hW => x_fa0 fa59_0 rfl) fun a F => F.dv 7 15 (.load 3 (.tmp 14)) hS (fun W hW => x_load rfl (m_load flat3 ((m4_d.k2 hW (by omega)).cell (j := 0) rfl))) fun a F => ?_
  refine d_two 4 8 (by kernel_rfl) ?_ ?_
  · refine d_op 4 (some 12) (.load 3 (.tmp 11)) (by kernel_rfl) fun ty pos af => ?_
    refine F.ld mg flat3 rfl rfl fun a F => ?_
    refine s_end ⟨hS, ?_⟩
    refine d1 8 (some 16) (.call (.mk (.value (.func 138)) #[(.tmp 13), (.tmp 15)] #[3, 3])) fun ty pos af => ?_
    refine s_callS [_, _] F E138 rfl (by decide) (sum54 _ _ (by omega) (by omega) (by omega) (by omega) _) fun a F => ?_
    refine s_end ⟨hS, ?_⟩
    refine F.dv 9 17 (.call (.mk (.builtin .max) #[(.tmp 12), (.tmp 16)] #[3, 3])) hS (fun W hW => x_imax rfl rfl) fun a F => F.dv 10 18 (.nilCheck (.tmp 8)) hS (fun W hW => x_nil rfl) fun a F => F.dv 11 19 (.fieldAddr 126 (.tmp 18) 0) hS (fun W hW => x_fa0 fa59_0 rfl) fun a F => ?_
    refine d1 12 none (.store 3 (.tmp 19) (.tmp 17)) fun ty pos af => ?_
    refine s_put F rfl rfl flat3 mg (by first | (simp; done) | (show _ < 3; decide)) rfl fun w6 mg o7 => ?_
    have so7 := o7.size
    have hK := hK.only o7 (by omega)
    have hO := own_only hO o7 (hne)
    have m4 := m4.only o7 (by omega)
    have hS := hS.only o7 (by omega)
    refine s_end ⟨hS, ?_⟩
    refine d_end (by kernel_rfl) (K2 _ _ ?_)
    refine wp_rs fun _ K3 => F.vl (x_fa0 fa59_1 rfl) fun a F => F.ld m4 flat29 rfl rfl fun a F => F.vl (x_len Try.underlying92 rfl) fun a F => F.mv rfl fun a F => ?_
    refine s_end (K3 _ _ ?_)
    refine wp_block ?_
    refine wp_up ls.length (fun i a w => ∃ v' o', FA 126 base w g o' v' (max c (cut (n + c2))) (jn ks ls n i) ∧ (o' = o ∨ w1.heap.size ≤ o') ∧ Ktw g o w1 w ∧ Fs 37 a [(23, .int .i64 (i : Int)), (22, .int .i64 (ls.length : Int)), (21, .slice av ls.length cv), (0, .pointer (some ⟨g, 0, none⟩)), (2, .int .i64 n)]) ⟨v, o, ⟨mg, hO, hat, hne, by omega⟩, .inl rfl, hK, F.sub _ rfl⟩ ?_
    repeat clear F
    clear hK hA mg hO hat hne
    rintro i a w hi ⟨vv, o2, hA, ho2, hK, F⟩ K' hK'
    have sK := hK.size
    have hlo2 := hA.lo
    have hgl2 := hA.lt
    have hjl := jn_len (L := ks) (G := ls) n i
    have hBw := Below.refl w.heap.size w
    refine wp_rs fun _ K4 => F.vl (x_lss rfl rfl rfl) fun a F => ?_
    refine s_end (K4 _ _ ?_)
    refine wp_seq_k fun _ K5 => ?_
    refine wp_iff F rfl (fun hc24 => ?_) (fun hc24 => ?_)
    · obtain ⟨b1, off1, c1, hve2, hrow⟩ := rd_rowI (hV.k2 hK hdis) (i := i) (by omega)
      rw [hve] at hve2
      cases hve2
      have hgi := hLo.gt i
      have hgh := hHi i
      refine wp_skip (K5 _ _ ?_)
      refine wp_seq_k fun _ K6 => ?_
      refine wp_block ?_
      refine wp_rs fun _ K7 => F.mv rfl fun a F => F.vl (x_ixa rfl rfl (m_ixs i Try.underlying92 el29.size rfl (by omega))) fun a F => F.vl (x_load rfl (m_load flat3 (hrow _ hBw))) fun a F => F.sg rfl fun a F => F.sg rfl fun a F => ?_
      refine s_end (K7 _ _ ?_)
      refine wp_rs fun _ K8 => F.mv rfl fun a F => F.vl (x_neq rfl rfl rfl) fun a F => ?_
      refine s_end (K8 _ _ ?_)
      refine wp_iff F rfl (fun hc29 => ?_) (fun hc29 => ?_)
      · have hj : jn ks ls n (i + 1) = up (jn ks ls n i) i (cut (n + gt ls i)) := by rw [jn, if_neg hc29]
        refine wp_region_lit ?_
        refine F.mv rfl fun a F => F.mv rfl fun a F => F.mv rfl fun a F => F.mv rfl fun a F => ?_
        refine s_callS [_, _] F E138 rfl (by decide) (sum54 _ _ (by omega) (by omega) (by omega) (by omega) _) fun a F => ?_
        refine s_call (R := fun u w' => (u = .tuple #[] ∧ ∃ v' o', FA 126 base w' g o' v' (max c (cut (n + c2))) (up (jn ks ls n i) i (cut (n + gt ls i))) ∧ (o' = o2 ∨ w.heap.size ≤ o')) ∧ Ktw g o2 w w') F [_, _, _] E107 rfl (by decide) (raiseVar48 base g o2 vv _ (jn ks ls n i) i (cut (n + gt ls i)) w hA (by omega) (by omega)) ?_
        rintro _ w8 a ⟨⟨rfl, v3, o3, hA, ho3⟩, k9⟩ F
        have sk9 := k9.size
        have hK := hK.trans k9 (by omega)
        refine s_end (K6 _ _ ?_)
        refine wp_region_lit ?_
        refine F.vl (x_addn (i + 1) (by omega) (by omega) rfl rfl) fun a F => F.mv rfl fun a F => ?_
        refine s_end (hK' _ _ (by omega) ⟨_, _, by rw [hj]; exact hA, by omega, hK, F.sub _ rfl⟩)
      · have hj : jn ks ls n (i + 1) = jn ks ls n i := by rw [jn, if_pos (by omega)]
        refine wp_skip (K6 _ _ ?_)
        refine wp_region_lit ?_
        refine F.vl (x_addn (i + 1) (by omega) (by omega) rfl rfl) fun a F => F.mv rfl fun a F => ?_
        refine s_end (hK' _ _ (by omega) ⟨_, _, by rw [hj]; exact hA, by omega, hK, F.sub _ rfl⟩)
    · obtain rfl : i = ls.length := by omega
      refine wp_exit ?_
      show bodyPost Try.prog Try.f108 (fun e w' => ∃ u, e = .returned u ∧ (u = .tuple #[] ∧ ∃ v' o', FA 126 base w' g o' v' (max c (cut (n + c2))) (jn ks ls n ls.length) ∧ (o' = o ∨ w1.heap.size ≤ o')) ∧ Ktw g o w1 w') .normal a w
      refine post_normal (res_none F rfl ⟨_, rfl, ⟨rfl, _, _, hA, ho2⟩, hK⟩)
  · refine d_op 8 (some 16) (.call (.mk (.value (.func 138)) #[(.tmp 13), (.tmp 15)] #[3, 3])) (by kernel_rfl) fun ty pos af => ?_
    refine s_callS [_, _] F E138 rfl (by decide) (sum54 _ _ (by omega) (by omega) (by omega) (by omega) _) fun a F => ?_
    refine s_end ⟨hS, ?_⟩
    refine d1 4 (some 12) (.load 3 (.tmp 11)) fun ty pos af => ?_
    refine F.ld mg flat3 rfl rfl fun a F => ?_
    refine s_end ⟨hS, ?_⟩
    refine F.dv 9 17 (.call (.mk (.builtin .max) #[(.tmp 12), (.tmp 16)] #[3, 3])) hS (fun W hW => x_imax rfl rfl) fun a F => F.dv 10 18 (.nilCheck (.tmp 8)) hS (fun W hW => x_nil rfl) fun a F => F.dv 11 19 (.fieldAddr 126 (.tmp 18) 0) hS (fun W hW => x_fa0 fa59_0 rfl) fun a F => ?_
    refine d1 12 none (.store 3 (.tmp 19) (.tmp 17)) fun ty pos af => ?_
    refine s_put F rfl rfl flat3 mg (by first | (simp; done) | (show _ < 3; decide)) rfl fun w10 mg o11 => ?_
    have so11 := o11.size
    have hK := hK.only o11 (by omega)
    have hO := own_only hO o11 (hne)
    have m4 := m4.only o11 (by omega)
    have hS := hS.only o11 (by omega)
    refine s_end ⟨hS, ?_⟩
    refine d_end (by kernel_rfl) (K2 _ _ ?_)
    refine wp_rs fun _ K9 => F.vl (x_fa0 fa59_1 rfl) fun a F => F.ld m4 flat29 rfl rfl fun a F => F.vl (x_len Try.underlying92 rfl) fun a F => F.mv rfl fun a F => ?_
    refine s_end (K9 _ _ ?_)
    refine wp_block ?_
    refine wp_up ls.length (fun i a w => ∃ v' o', FA 126 base w g o' v' (max c (cut (n + c2))) (jn ks ls n i) ∧ (o' = o ∨ w1.heap.size ≤ o') ∧ Ktw g o w1 w ∧ Fs 37 a [(23, .int .i64 (i : Int)), (22, .int .i64 (ls.length : Int)), (21, .slice av ls.length cv), (0, .pointer (some ⟨g, 0, none⟩)), (2, .int .i64 n)]) ⟨v, o, ⟨mg, hO, hat, hne, by omega⟩, .inl rfl, hK, F.sub _ rfl⟩ ?_
    repeat clear F
    clear hK hA mg hO hat hne
    rintro i a w hi ⟨vv, o2, hA, ho2, hK, F⟩ K' hK'
    have sK := hK.size
    have hlo2 := hA.lo
    have hgl2 := hA.lt
    have hjl := jn_len (L := ks) (G := ls) n i
    have hBw := Below.refl w.heap.size w
    refine wp_rs fun _ K10 => F.vl (x_lss rfl rfl rfl) fun a F => ?_
    refine s_end (K10 _ _ ?_)
    refine wp_seq_k fun _ K11 => ?_
    refine wp_iff F rfl (fun hc24 => ?_) (fun hc24 => ?_)
    · obtain ⟨b1, off1, c1, hve2, hrow⟩ := rd_rowI (hV.k2 hK hdis) (i := i) (by omega)
      rw [hve] at hve2
      cases hve2
      have hgi := hLo.gt i
      have hgh := hHi i
      refine wp_skip (K11 _ _ ?_)
      refine wp_seq_k fun _ K12 => ?_
      refine wp_block ?_
      refine wp_rs fun _ K13 => F.mv rfl fun a F => F.vl (x_ixa rfl rfl (m_ixs i Try.underlying92 el29.size rfl (by omega))) fun a F => F.vl (x_load rfl (m_load flat3 (hrow _ hBw))) fun a F => F.sg rfl fun a F => F.sg rfl fun a F => ?_
      refine s_end (K13 _ _ ?_)
      refine wp_rs fun _ K14 => F.mv rfl fun a F => F.vl (x_neq rfl rfl rfl) fun a F => ?_
      refine s_end (K14 _ _ ?_)
      refine wp_iff F rfl (fun hc29 => ?_) (fun hc29 => ?_)
      · have hj : jn ks ls n (i + 1) = up (jn ks ls n i) i (cut (n + gt ls i)) := by rw [jn, if_neg hc29]
        refine wp_region_lit ?_
        refine F.mv rfl fun a F => F.mv rfl fun a F => F.mv rfl fun a F => F.mv rfl fun a F => ?_
        refine s_callS [_, _] F E138 rfl (by decide) (sum54 _ _ (by omega) (by omega) (by omega) (by omega) _) fun a F => ?_
        refine s_call (R := fun u w' => (u = .tuple #[] ∧ ∃ v' o', FA 126 base w' g o' v' (max c (cut (n + c2))) (up (jn ks ls n i) i (cut (n + gt ls i))) ∧ (o' = o2 ∨ w.heap.size ≤ o')) ∧ Ktw g o2 w w') F [_, _, _] E107 rfl (by decide) (raiseVar48 base g o2 vv _ (jn ks ls n i) i (cut (n + gt ls i)) w hA (by omega) (by omega)) ?_
        rintro _ w12 a ⟨⟨rfl, v3, o3, hA, ho3⟩, k13⟩ F
        have sk13 := k13.size
        have hK := hK.trans k13 (by omega)
        refine s_end (K12 _ _ ?_)
        refine wp_region_lit ?_
        refine F.vl (x_addn (i + 1) (by omega) (by omega) rfl rfl) fun a F => F.mv rfl fun a F => ?_
        refine s_end (hK' _ _ (by omega) ⟨_, _, by rw [hj]; exact hA, by omega, hK, F.sub _ rfl⟩)
      · have hj : jn ks ls n (i + 1) = jn ks ls n i := by rw [jn, if_pos (by omega)]
        refine wp_skip (K12 _ _ ?_)
        refine wp_region_lit ?_
        refine F.vl (x_addn (i + 1) (by omega) (by omega) rfl rfl) fun a F => F.mv rfl fun a F => ?_
        refine s_end (hK' _ _ (by omega) ⟨_, _, by rw [hj]; exact hA, by omega, hK, F.sub _ rfl⟩)
    · obtain rfl : i = ls.length := by omega
      refine wp_exit ?_
      show bodyPost Try.prog Try.f108 (fun e w' => ∃ u, e = .returned u ∧ (u = .tuple #[] ∧ ∃ v' o', FA 126 base w' g o' v' (max c (cut (n + c2))) (jn ks ls n ls.length) ∧ (o' = o ∨ w1.heap.size ≤ o')) ∧ Ktw g o w1 w') .normal a w
      refine post_normal (res_none F rfl ⟨_, rfl, ⟨rfl, _, _, hA, ho2⟩, hK⟩)
theorem formOf38y (x : C3) (l : Lv) (w0 : World) (hL : RL w0 x l) : Calls Try.prog 106 #[lv x] w0 fun e w' => ∃ v, e = .returned v ∧ (∃ c vk ks, v = .tuple #[.agg [.int .i64 c, vk].toArray, .bool (decide (sndL l))] ∧ FF w0 x l w' c vk ks ∧ ∀ j, vk.ownBlock = some j → w0.heap.size ≤ j) ∧ Below w0.heap.size w0 w' := by
 have hB := Below.refl w0.heap.size w0
 have sB := hB.size
 refine calls_fs 13 [(0, lv x)] Try.func106 rfl rfl rfl rfl rfl fun a F => ?_
 refine wp_rs fun _ K1 => ?_
 refine s_box (lc x) F (by decide) rfl rfl fun w2 b1 a eb1 m1 B3 zb1 F => ?_
 have sB3 := B3.size
 have hB := bt hB B3
 refine s_alloc F (by decide) zero59 fun w4 b2 a eb2 m2 B5 zb2 F => ?_
 have sB5 := B5.size
 have hB := bt hB B5
 have m1 := m1.old B5
 refine F.sg rfl fun a F => ?_
 refine s_end (K1 _ _ ?_)
 refine wp_seq_k fun _ K2 => ?_
 rcases (show decide (sndL l) = false ∨ decide (sndL l) = true by cases decide (sndL l) <;> simp) with hd | hd
 ·
  have hn : ¬ sndL l := of_decide_eq_false hd
  refine wp_rs fun _ K4 => F.vl (x_ldW wide24 m1 rfl rfl) fun a F => ?_
  refine s_callB [_] F E136 rfl (by decide) (isSound49 x l w4 (hL.old hB)) fun w6 a B7 F => ?_
  have sB7 := B7.size
  have hB := bt hB B7
  have m2 := m2.old B7
  rw [hd] at F
  refine F.vl (x_not rfl) fun a F => ?_
  refine s_end (K4 _ _ ?_)
  refine wp_if F rfl ?_
  refine wp_rs fun _ K5 => F.vl (x_build (vs := []) rfl (b59_ _)) fun a F => ?_
  refine s_putW F rfl rfl (size_wide wide59) m2 rfl (one2 rfl) fun w8 m2 o9 => ?_
  have so9 := o9.size
  have hB := hB.trans (o9.below (by omega))
  refine F.sg rfl fun a F => ?_
  refine s_end (K5 _ _ ?_)
  refine wp_ret (then_ret (res_ct F rfl rfl m2 wide59 rfl ⟨_, rfl, ⟨_, _, [], by rw [hd], ⟨Rd.nil _ _, fun _ => ⟨rfl, rfl⟩, fun s hs hsg => absurd (rs_snd hL hs hsg) hn⟩, fun j h => by cases h⟩, hB⟩))
 ·
  have hn : sndL l := of_decide_eq_true hd
  obtain ⟨s, hs, hsg⟩ := sound_sl hL hn
  refine wp_rs fun _ K6 => F.vl (x_ldW wide24 m1 rfl rfl) fun a F => ?_
  refine s_callB [_] F E136 rfl (by decide) (isSound49 x l w4 (hL.old hB)) fun w10 a B11 F => ?_
  have sB11 := B11.size
  have hB := bt hB B11
  have m1 := m1.old B11
  have m2 := m2.old B11
  rw [hd] at F
  refine F.vl (x_not rfl) fun a F => ?_
  refine s_end (K6 _ _ ?_)
  refine wp_if F rfl ?_
  refine wp_skip (K2 _ _ ?_)
  refine wp_rs fun _ K7 => ?_
  refine s_alloc F (by decide) zero59 fun w12 b4 a eb4 m4 B13 zb4 F => ?_
  have sB13 := B13.size
  have hB := bt hB B13
  have m1 := m1.old B13
  have m2 := m2.old B13
  refine s_end (K7 _ _ ?_)
  refine wp_rs fun _ K8 => F.vl (x_ldW wide24 m1 rfl rfl) fun a F => ?_
  have hA : FA 126 w0.heap.size w12 b4 b4 (.slice none 0 0) 0 [] := FA.start m4 (by omega)
  refine s_call (R := fun u w' => (u = .tuple #[] ∧ ∃ v' o', FA 126 w0.heap.size w' b4 o' v' (rc s 0 0) (nfK s) ∧ (o' = b4 ∨ w12.heap.size ≤ o')) ∧ Ktw b4 b4 w12 w') F [_, _, _] E137 rfl (by decide) (raise59 w0 b4 s x hs hsg.2.2 0 b4 _ 0 [] w12 (by decide) (by decide) (by decide) (by decide) (by decide) hB hA) ?_
  rintro _ w14 a ⟨⟨rfl, v2, o2, hA, ho2⟩, k15⟩ F
  have sk15 := k15.size
  have hB := k15.under hB (by omega)
  have m2 := m2.k2 k15 (by omega)
  have hlo := hA.lo
  refine s_end (K8 _ _ ?_)
  refine wp_rs fun _ K9 => ?_
  refine s_call (R := fun u w' => (u = .tuple #[] ∧ FA 126 w0.heap.size w' b4 o2 v2 (setl (rc s 0 0) (nfK s)) (nfK s)) ∧ Ktw b4 o2 w14 w') F [_] E109 rfl (by decide) (settle47 w0.heap.size b4 o2 v2 _ (nfK s) w14 hA (by have := nfK_len s hsg; omega) (nfK_lo s) (rc_bd (by decide) (by decide) (by decide) (by decide)).1) ?_
  rintro _ w16 a ⟨⟨rfl, hA⟩, k17⟩ F
  have sk17 := k17.size
  have hB := k17.under hB (by omega)
  have m2 := m2.k2 k17 (by omega)
  rw [nfC_setl] at hA
  have m4 := hA.blk
  have hlo2 := hA.lo
  have h1v := hA.rd.one
  refine s_end (K9 _ _ ?_)
  refine wp_rs fun _ K10 => F.vl (x_ldW wide59 m4 rfl rfl) fun a F => ?_
  refine s_putW F rfl rfl (size_wide wide59) m2 rfl (one2 h1v) fun w18 m2 o19 => ?_
  have so19 := o19.size
  have hB := hB.trans (o19.below (by omega))
  have hA := hA.only o19 (by omega)
  refine F.sg rfl fun a F => ?_
  refine s_end (K10 _ _ ?_)
  refine wp_ret (res_ct F rfl rfl m2 wide59 rfl ⟨_, rfl, ⟨_, v2, nfK s, by rw [hd], ⟨hA.rd, fun h => absurd hn h, fun s' hs' _ => by rw [RS.inj hs hs']; exact ⟨rfl, rfl⟩⟩, fun j h => (hA.own.lt j h).1⟩, hB⟩)
/-- A level with levels in the place of its variables, up to the ith. -/
def instT (c : Int) (ks : List Int) (τ : Nat → SL) : Nat → SL
 | 0 => .num c.toNat
 | i + 1 => if gt ks i = -1 then instT c ks τ i else .mx (instT c ks τ i) (.succ (gt ks i).toNat (τ i))
/-- One that takes a place and is not sound. -/
def bad (ls : List Lv) (K : List Int) (i : Nat) : Prop := i < K.length ∧ gt K i ≠ -1 ∧ ∃ l, ls[i]? = some l ∧ ¬ sndL l
theorem Inst27 (x : C3) (l : Lv) (xs : List C3) (ls : List Lv) (v : Value) (τ : Nat → SL) (w0 : World) (hL : RL w0 x l) (hV : Rd w0 v 3 xs.length (xs.flatMap lc)) (hls : xs.length = ls.length) (hl : ∀ (i : Nat) x l, xs[i]? = some x → ls[i]? = some l → RL w0 x l) (hτ : ∀ (i : Nat) x l, xs[i]? = some x → ls[i]? = some l → sndL l → RS w0 (τ i) x ∧ (τ i).good) (hτ2 : ∀ i, xs.length ≤ i → τ i = .var i) : Calls Try.prog 64 #[lv x, v] w0 fun e w' => ∃ u, e = .returned u ∧ (∃ z, u = lv z ∧ (¬ sndL l → z = (0, 0, .slice none 0 0)) ∧ ∀ s, RS w0 s x → s.good → ((∃ i, bad ls (nfK s) i) → z = (0, 0, .slice none 0 0)) ∧ ((¬ ∃ i, bad ls (nfK s) i) → RSn w' (fun k => w0.heap.size ≤ k) (levF (nfC (instT (nfC s) (nfK s) τ (nfK s).length)) (nfK (instT (nfC s) (nfK s) τ (nfK s).length))) z)) ∧ Below w0.heap.size w0 w' := by
 obtain ⟨av, cv, rfl, _⟩ := hV.form
 have hB := Below.refl w0.heap.size w0
 have sB := hB.size
 refine calls_fs 60 [(0, lv x), (1, .slice av xs.length cv)] Try.func64 rfl rfl rfl rfl rfl fun a F => ?_
 refine wp_rs fun _ K1 => ?_
 refine s_box (lc x) F (by decide) rfl rfl fun w2 b2 a eb2 m2 B3 zb2 F => ?_
 have sB3 := B3.size
 have hB := bt hB B3
 refine s_alloc F (by decide) zero24 fun w4 b4 a eb4 m4 B5 zb4 F => ?_
 have sB5 := B5.size
 have hB := bt hB B5
 have m2 := m2.old B5
 refine s_end (K1 _ _ ?_)
 rcases (show decide (sndL l) = false ∨ decide (sndL l) = true by cases decide (sndL l) <;> simp) with hd | hd
 ·
  have hn : ¬ sndL l := of_decide_eq_false hd
  refine wp_rs fun _ K3 => F.vl (x_ldW wide24 m2 rfl rfl) fun a F => ?_
  have hB9 := hB
  refine s_callR (R := fun v w' => ∃ c vk ks, v = .tuple #[.agg [.int .i64 c, vk].toArray, .bool (decide (sndL l))] ∧ FF w4 x l w' c vk ks) [_] F E106 rfl (by decide) (formOf38 x l w4 (hL.old hB)) ?_
  rintro _ w6 a ⟨c1, vk1, ks1, rfl, hf1⟩ B7 F
  have sB7 := B7.size
  have hB := bt hB B7
  have m4 := m4.old B7
  have h1v1 := hf1.1.one
  rw [hd] at F
  refine F.mv rfl fun a F => F.vl (x_ext rfl rfl) fun a F => F.vl (x_ext rfl rfl) fun a F => ?_
  refine s_alloc F (by decide) zero59 fun w8 b5 a eb5 m5 B9 zb5 F => ?_
  have sB9 := B9.size
  have hB := bt hB B9
  have m4 := m4.old B9
  refine s_putW F rfl rfl (size_wide wide59) m5 rfl (one2 h1v1) fun w10 m5 o11 => ?_
  have so11 := o11.size
  have hB := hB.trans (o11.below (by omega))
  have m4 := m4.only o11 (by omega)
  refine F.sg rfl fun a F => ?_
  refine s_end (K3 _ _ ?_)
  refine wp_seq_k fun _ K4 => ?_
  refine wp_rs fun _ K5 => F.mv rfl fun a F => F.vl (x_not rfl) fun a F => ?_
  refine s_end (K5 _ _ ?_)
  refine wp_if F rfl ?_
  refine wp_rs fun _ K6 => F.vl (x_build (vs := []) rfl (b24_ _)) fun a F => ?_
  refine s_putW F rfl rfl (size_wide wide24) m4 rfl (one3 rfl) fun w12 m4 o13 => ?_
  have so13 := o13.size
  have hB := hB.trans (o13.below (by omega))
  refine s_end (K6 _ _ ?_)
  refine wp_ret (then_ret (res_cell F rfl rfl m4 wide24 ⟨_, rfl, ⟨(0, 0, .slice none 0 0), rfl, fun _ => rfl, fun s hs hsg => absurd (rs_snd hL hs hsg) hn⟩, hB⟩))
 ·
  have hn : sndL l := of_decide_eq_true hd
  obtain ⟨s, hs, hsg⟩ := sound_sl hL hn
  have hsl := nfK_len s hsg
  refine wp_rs fun _ K7 => F.vl (x_ldW wide24 m2 rfl rfl) fun a F => ?_
  have hB9 := hB
  refine s_callR (R := fun v w' => ∃ c vk ks, v = .tuple #[.agg [.int .i64 c, vk].toArray, .bool (decide (sndL l))] ∧ FF w4 x l w' c vk ks) [_] F E106 rfl (by decide) (formOf38 x l w4 (hL.old hB)) ?_
  rintro _ w14 a ⟨c1, vk1, ks1, rfl, hf1⟩ B15 F
  have sB15 := B15.size
  have hB := bt hB B15
  have m4 := m4.old B15
  have h1v1 := hf1.1.one
  rw [hd] at F
  obtain ⟨rfl, rfl⟩ := hf1.2.2 s (RS.below hB9 hs) hsg
  obtain ⟨ak, ck, hvk, _⟩ := hf1.1.form
  subst hvk
  have hB1 := Below.refl w14.heap.size w14
  refine F.mv rfl fun a F => F.vl (x_ext rfl rfl) fun a F => F.vl (x_ext rfl rfl) fun a F => ?_
  refine s_alloc F (by decide) zero59 fun w16 b5 a eb5 m5 B17 zb5 F => ?_
  have sB17 := B17.size
  have hB := bt hB B17
  have hB1 := bt hB1 B17
  have m4 := m4.old B17
  refine s_putW F rfl rfl (size_wide wide59) m5 rfl (one2 h1v1) fun w18 m5 o19 => ?_
  have so19 := o19.size
  have hB := hB.trans (o19.below (by omega))
  have hB1 := hB1.trans (o19.below (by omega))
  have m4 := m4.only o19 (by omega)
  refine F.sg rfl fun a F => ?_
  refine s_end (K7 _ _ ?_)
  refine wp_seq_k fun _ K8 => ?_
  refine wp_rs fun _ K9 => F.mv rfl fun a F => F.vl (x_not rfl) fun a F => ?_
  refine s_end (K9 _ _ ?_)
  refine wp_if F rfl ?_
  refine wp_skip (K8 _ _ ?_)
  refine wp_rs fun _ K10 => F.vl (x_fa0 fa59_0 rfl) fun a F => F.ld m5 flat3 rfl rfl fun a F => F.vl (x_build (vs := [(0, _)]) rfl (b59_0 _ _)) fun a F => ?_
  refine s_alloc F (by decide) zero59 fun w20 b7 a eb7 m7 B21 zb7 F => ?_
  have sB21 := B21.size
  have hB := bt hB B21
  have hB1 := bt hB1 B21
  have m4 := m4.old B21
  have m5 := m5.old B21
  refine s_putW F rfl rfl (size_wide wide59) m7 rfl (one2 rfl) fun w22 m7 o23 => ?_
  have so23 := o23.size
  have hB := hB.trans (o23.below (by omega))
  have hB1 := hB1.trans (o23.below (by omega))
  have m4 := m4.only o23 (by omega)
  have m5 := m5.only o23 (by omega)
  refine s_end (K10 _ _ ?_)
  refine wp_seq_k fun _ K11 => ?_
  refine wp_rs fun _ K12 => F.vl (x_fa0 fa59_1 rfl) fun a F => F.ld m5 flat29 rfl rfl fun a F => F.vl (x_len Try.underlying92 rfl) fun a F => F.mv rfl fun a F => ?_
  refine s_end (K12 _ _ ?_)
  refine wp_block ?_
  have hA7 := FA.start (base := w14.heap.size) m7 (by omega)
  have hbb : w0.heap.size ≤ b4 ∧ b4 < b5 ∧ b5 < b7 ∧ w14.heap.size ≤ b7 ∧ b4 < w14.heap.size := ⟨by omega, by omega, by omega, by omega, by omega⟩
  refine wp_up (nfK s).length (fun i a w => ∃ v' o' c L, FA 126 w14.heap.size w b7 o' v' c L ∧ IsF c L (instT (nfC s) (nfK s) τ i) ∧ L.length ≤ 1001 ∧ (o' = b7 ∨ b7 < o') ∧ (∀ j, j < i → ¬ bad ls (nfK s) j) ∧ Blk w b4 24 [.int .i64 0, .int .i64 0, .slice none 0 0] ∧ Below w0.heap.size w0 w ∧ Below w14.heap.size w14 w ∧ Fs 60 a [(26, .int .i64 (i : Int)), (25, .int .i64 ((nfK s).length : Int)), (24, .slice ak (nfK s).length ck), (1, .slice av xs.length cv), (4, .pointer (some ⟨b4, 0, none⟩)), (7, .pointer (some ⟨b7, 0, none⟩))]) ⟨_, b7, _, [], hA7, isF_start (nfC s) (nfC_nn s) (nfC_le s), by decide, .inl rfl, (fun j h => by omega), m4, hB, hB1, F.sub _ rfl⟩ ?_
  repeat clear F
  clear hB hB1 m4 hA7
  rintro i a w hi ⟨vv, o2, c, L, hA, hIF, hLl, ho2, hnb, m4, hB, hB1, F⟩ K' hK'
  have sB := hB.size
  have sB1 := hB1.size
  have hlo := hA.lo
  have hgl := hA.lt
  have hc0 := hIF.nn
  have hc1 := hIF.hi
  refine wp_rs fun _ K13 => F.vl (x_lss (b := decide (i < (nfK s).length)) (decide_eq_decide.2 (by omega)) rfl rfl) fun a F => ?_
  refine s_end (K13 _ _ ?_)
  refine wp_seq_k fun _ K14 => ?_
  refine wp_iff F rfl (fun hc27 => ?_) (fun hc27 => ?_)
  ·
   obtain ⟨b8, off8, c8, hve, hrow⟩ := rd_rowI hf1.1 (i := i) (by omega)
   cases hve
   have hgi := (nfK_lo s).gt i
   have hgh := nfK_hi s i
   refine wp_skip (K14 _ _ ?_)
   refine wp_seq_k fun _ K15 => ?_
   refine wp_block ?_
   refine wp_rs fun _ K16 => F.mv rfl fun a F => F.vl (x_ixa rfl rfl (m_ixs i Try.underlying92 el29.size rfl (by omega))) fun a F => F.vl (x_load rfl (m_load flat3 (hrow _ hB1))) fun a F => F.sg rfl fun a F => F.sg rfl fun a F => ?_
   refine s_end (K16 _ _ ?_)
   refine wp_block ?_
   rcases (show gt (nfK s) i = -1 ∨ (gt (nfK s) i ≠ -1 ∧ xs.length ≤ i) ∨ (gt (nfK s) i ≠ -1 ∧ i < xs.length) by omega) with hg | ⟨hc45, hg⟩ | ⟨hc45, hg⟩
   ·
    have hnb2 : ∀ j, j < i + 1 → ¬ bad ls (nfK s) j := by
     intro j hj hb
     rcases Nat.lt_or_ge j i with h | h
     ·
      exact hnb j h hb
     ·
      have hji : j = i := by omega
      subst hji
      exact hb.2.1 hg
    have hIF2 : IsF c L (instT (nfC s) (nfK s) τ (i + 1)) := by rw [instT, if_pos hg]; exact hIF
    have hLl2 := hLl
    have ho3 : o2 = o2 ∨ w.heap.size ≤ o2 := .inl rfl
    refine wp_rs fun _ K18 => F.mv rfl fun a F => F.vl (eqlT (by omega) rfl rfl) fun a F => F.sg rfl fun a F => ?_
    refine s_end (K18 _ _ ?_)
    refine wp_if F rfl ?_
    refine wp_skip (K15 _ _ ?_)
    refine wp_region_lit ?_
    refine F.vl (x_addn (i + 1) (by omega) (by omega) rfl rfl) fun a F => F.mv rfl fun a F => ?_
    refine s_end (hK' _ _ (by omega) ⟨_, _, _, _, hA, hIF2, hLl2, by omega, hnb2, m4, hB, hB1, F.sub _ rfl⟩)
   ·
    have hstep : instT (nfC s) (nfK s) τ (i + 1) = .mx (instT (nfC s) (nfK s) τ i) (.succ (gt (nfK s) i).toNat (τ i)) := by rw [instT, if_neg hc45]
    have hnb2 : ∀ j, j < i + 1 → ¬ bad ls (nfK s) j := by
     intro j hj hb
     rcases Nat.lt_or_ge j i with h | h
     ·
      exact hnb j h hb
     ·
      have hji : j = i := by omega
      subst hji
      exact by obtain ⟨_, _, l9, h9, _⟩ := hb; have := (List.getElem?_eq_some_iff.1 h9).1; omega
    refine wp_rs fun _ K19 => F.mv rfl fun a F => F.vl (eqlF (by omega) rfl rfl) fun a F => F.sg rfl fun a F => ?_
    refine s_end (K19 _ _ ?_)
    refine wp_if F rfl ?_
    refine wp_rs fun _ K20 => F.mv rfl fun a F => F.mv rfl fun a F => F.vl (x_len Try.underlying22 rfl) fun a F => F.vl (geqT (by omega) rfl rfl) fun a F => F.sg rfl fun a F => ?_
    refine s_end (K20 _ _ ?_)
    refine wp_if F rfl ?_
    refine wp_region_lit ?_
    refine F.mv rfl fun a F => F.mv rfl fun a F => ?_
    refine s_call (R := fun u w' => (u = .tuple #[] ∧ ∃ v' o', FA 126 w14.heap.size w' b7 o' v' c (up L i (gt (nfK s) i)) ∧ (o' = o2 ∨ w.heap.size ≤ o')) ∧ Ktw b7 o2 w w') F [_, _, _] E107 rfl (by decide) (raiseVar48 w14.heap.size b7 o2 vv c L i (gt (nfK s) i) w hA (by omega) (by omega)) ?_
    rintro _ w24 a ⟨⟨rfl, v3, o3, hA, ho3⟩, k25⟩ F
    have sk25 := k25.size
    have hB := k25.under hB (by omega)
    have hB1 := k25.under hB1 (by omega)
    have m4 := m4.k2 k25 (by omega)
    have hIF2 := isF_var hIF i (gt (nfK s) i).toNat (by omega)
    rw [show (((gt (nfK s) i).toNat : Nat) : Int) = gt (nfK s) i by omega, ← hτ2 i (by omega), ← hstep] at hIF2
    have hLl2 : (up L i (gt (nfK s) i)).length ≤ 1001 := by rw [up_len]; omega
    refine s_end (K15 _ _ ?_)
    refine wp_region_lit ?_
    refine F.vl (x_addn (i + 1) (by omega) (by omega) rfl rfl) fun a F => F.mv rfl fun a F => ?_
    refine s_end (hK' _ _ (by omega) ⟨_, _, _, _, hA, hIF2, hLl2, by omega, hnb2, m4, hB, hB1, F.sub _ rfl⟩)
   ·
    have hstep : instT (nfC s) (nfK s) τ (i + 1) = .mx (instT (nfC s) (nfK s) τ i) (.succ (gt (nfK s) i).toNat (τ i)) := by rw [instT, if_neg hc45]
    obtain ⟨b6, off6, c6, y, hve, hy, hrowv⟩ := rd_row3 hV (i := i) hg
    cases hve
    obtain ⟨ly, hli⟩ : ∃ ly, ls[i]? = some ly := ⟨_, List.getElem?_eq_getElem (by omega)⟩
    have hyl := hl i y ly hy hli
    have hi1 : i < (nfK s).length := hc27
    refine wp_rs fun _ K21 => F.mv rfl fun a F => F.vl (eqlF (by omega) rfl rfl) fun a F => F.sg rfl fun a F => ?_
    refine s_end (K21 _ _ ?_)
    refine wp_if F rfl ?_
    refine wp_rs fun _ K22 => F.mv rfl fun a F => F.mv rfl fun a F => F.vl (x_len Try.underlying22 rfl) fun a F => F.vl (geqF (by omega) rfl rfl) fun a F => F.sg rfl fun a F => ?_
    refine s_end (K22 _ _ ?_)
    refine wp_if F rfl ?_
    rcases (show decide (sndL ly) = false ∨ decide (sndL ly) = true by cases decide (sndL ly) <;> simp) with hd2 | hd2
    ·
     have hnl : ¬ sndL ly := of_decide_eq_false hd2
     refine wp_rs fun _ K24 => F.mv rfl fun a F => F.mv rfl fun a F => F.vl (x_ixa rfl rfl (m_ixsK i Try.underlying22 el22.size rfl (by omega))) fun a F => F.vl (x_ldA wide24 (hrowv _ hB) rfl rfl) fun a F => ?_
     have hB8 := hB
     refine s_callR (R := fun v w' => ∃ c vk ks, v = .tuple #[.agg [.int .i64 c, vk].toArray, .bool (decide (sndL ly))] ∧ FF w y ly w' c vk ks ∧ ∀ j, vk.ownBlock = some j → w.heap.size ≤ j) [_] F E106 rfl (by decide) (formOf38y y ly w (hyl.old hB)) ?_
     rintro _ w26 a ⟨c2, vk2, ks2, rfl, hf2, hyo⟩ B27 F
     have sB27 := B27.size
     have hB := bt hB B27
     have m4 := m4.old B27
     have h1v2 := hf2.1.one
     rw [hd2] at F
     have hV2 := hf2.1
     have hV2q : ∀ j, vk2.ownBlock = some j → 0 < ks2.length → j < w26.heap.size := fun j h h0 => hV2.lt h0 h
     refine F.mv rfl fun a F => F.vl (x_ext rfl rfl) fun a F => F.vl (x_ext rfl rfl) fun a F => ?_
     refine s_alloc F (by decide) zero59 fun w28 b10 a eb10 m10 B29 zb10 F => ?_
     have sB29 := B29.size
     have hB := bt hB B29
     have m4 := m4.old B29
     refine s_putW F rfl rfl (size_wide wide59) m10 rfl (one2 h1v2) fun w30 m10 o31 => ?_
     have so31 := o31.size
     have hB := hB.trans (o31.below (by omega))
     have m4 := m4.only o31 (by omega)
     refine F.sg rfl fun a F => ?_
     refine s_end (K24 _ _ ?_)
     refine wp_seq_k fun _ K25 => ?_
     refine wp_rs fun _ K26 => F.mv rfl fun a F => F.vl (x_not rfl) fun a F => ?_
     refine s_end (K26 _ _ ?_)
     refine wp_if F rfl ?_
     refine wp_rs fun _ K27 => F.vl (x_build (vs := []) rfl (b24_ _)) fun a F => ?_
     refine s_putW F rfl rfl (size_wide wide24) m4 rfl (one3 rfl) fun w32 m4 o33 => ?_
     have so33 := o33.size
     have hB := hB.trans (o33.below (by omega))
     refine s_end (K27 _ _ ?_)
     refine wp_ret (then_ret (inb_ret (inb_ret (then_ret (then_ret (inb_ret (then_ret (res_cell F rfl rfl m4 wide24 ⟨_, rfl, ⟨(0, 0, .slice none 0 0), rfl, fun _ => rfl, fun s' hs' _ => ?_⟩, hB⟩))))))))
     obtain rfl := RS.inj hs hs'
     exact ⟨fun _ => rfl, fun h => absurd ⟨i, hi1, hc45, _, hli, hnl⟩ h⟩
    ·
     have hnl : sndL ly := of_decide_eq_true hd2
     have hti := hτ i y ly hy hli hnl
     have hnb2 : ∀ j, j < i + 1 → ¬ bad ls (nfK s) j := by
      intro j hj hb
      rcases Nat.lt_or_ge j i with h | h
      ·
       exact hnb j h hb
      ·
       have hji : j = i := by omega
       subst hji
       exact by obtain ⟨_, _, l9, h9, h10⟩ := hb; rw [hli] at h9; cases h9; exact h10 hnl
     refine wp_rs fun _ K28 => F.mv rfl fun a F => F.mv rfl fun a F => F.vl (x_ixa rfl rfl (m_ixsK i Try.underlying22 el22.size rfl (by omega))) fun a F => F.vl (x_ldA wide24 (hrowv _ hB) rfl rfl) fun a F => ?_
     have hB8 := hB
     refine s_callR (R := fun v w' => ∃ c vk ks, v = .tuple #[.agg [.int .i64 c, vk].toArray, .bool (decide (sndL ly))] ∧ FF w y ly w' c vk ks ∧ ∀ j, vk.ownBlock = some j → w.heap.size ≤ j) [_] F E106 rfl (by decide) (formOf38y y ly w (hyl.old hB)) ?_
     rintro _ w34 a ⟨c2, vk2, ks2, rfl, hf2, hyo⟩ B35 F
     have sB35 := B35.size
     have hB := bt hB B35
     have hB1 := bt hB1 B35
     have m4 := m4.old B35
     have hA := hA.below B35
     have h1v2 := hf2.1.one
     rw [hd2] at F
     have hV2 := hf2.1
     obtain ⟨rfl, rfl⟩ := hf2.2.2 (τ i) (RS.below hB8 hti.1) hti.2
     have hV2q : ∀ j, vk2.ownBlock = some j → 0 < (nfK (τ i)).length → j < w34.heap.size := fun j h h0 => hV2.lt h0 h
     refine F.mv rfl fun a F => F.vl (x_ext rfl rfl) fun a F => F.vl (x_ext rfl rfl) fun a F => ?_
     refine s_alloc F (by decide) zero59 fun w36 b10 a eb10 m10 B37 zb10 F => ?_
     have sB37 := B37.size
     have hB := bt hB B37
     have hB1 := bt hB1 B37
     have m4 := m4.old B37
     have hA := hA.below B37
     have hV2 := hV2.below B37
     refine s_putW F rfl rfl (size_wide wide59) m10 rfl (one2 h1v2) fun w38 m10 o39 => ?_
     have so39 := o39.size
     have hB := hB.trans (o39.below (by omega))
     have hB1 := hB1.trans (o39.below (by omega))
     have m4 := m4.only o39 (by omega)
     have hA := hA.only o39 (by omega)
     have hV2 := rd_onlyZ hV2 o39 (fun j h hp => by have := hV2q j h hp; omega)
     refine F.sg rfl fun a F => ?_
     refine s_end (K28 _ _ ?_)
     refine wp_seq_k fun _ K29 => ?_
     refine wp_rs fun _ K30 => F.mv rfl fun a F => F.vl (x_not rfl) fun a F => ?_
     refine s_end (K30 _ _ ?_)
     refine wp_if F rfl ?_
     refine wp_skip (K29 _ _ ?_)
     refine wp_region_lit ?_
     refine F.vl (x_ldW wide59 m10 rfl rfl) fun a F => F.mv rfl fun a F => ?_
     refine s_call (R := fun u w' => (u = .tuple #[] ∧ ∃ v' o', FA 126 w14.heap.size w' b7 o' v' (max c (cut (gt (nfK s) i + nfC (τ i)))) (jn L (nfK (τ i)) (gt (nfK s) i) (nfK (τ i)).length) ∧ (o' = o2 ∨ w38.heap.size ≤ o')) ∧ Ktw b7 o2 w38 w') F [_, _, _] E108 rfl (by decide) (raiseForm46g w14.heap.size b7 o2 vv c L (nfC (τ i)) vk2 (nfK (τ i)) (gt (nfK s) i) w38 (by omega) (by omega) (nfC_nn _) (nfC_le _) hLl (nfK_len _ hti.2) (nfK_lo _) (nfK_hi _) hV2 (fun j h => by have := hyo j h; omega) hA) ?_
     rintro _ w40 a ⟨⟨rfl, v3, o3, hA, ho3⟩, k41⟩ F
     have sk41 := k41.size
     have hB := k41.under hB (by omega)
     have hB1 := k41.under hB1 (by omega)
     have m4 := m4.k2 k41 (by omega)
     have hIF2 := isF_form hIF (τ i) (gt (nfK s) i).toNat
     rw [show (((gt (nfK s) i).toNat : Nat) : Int) = gt (nfK s) i by omega, ← hstep] at hIF2
     have hLl2 : (jn L (nfK (τ i)) (gt (nfK s) i) (nfK (τ i)).length).length ≤ 1001 := by have := jn_len (L := L) (G := nfK (τ i)) (gt (nfK s) i) (nfK (τ i)).length; have := nfK_len _ hti.2; omega
     refine s_end (K15 _ _ ?_)
     refine wp_region_lit ?_
     refine F.vl (x_addn (i + 1) (by omega) (by omega) rfl rfl) fun a F => F.mv rfl fun a F => ?_
     refine s_end (hK' _ _ (by omega) ⟨_, _, _, _, hA, hIF2, hLl2, by omega, hnb2, m4, hB, hB1, F.sub _ rfl⟩)
  ·
   obtain rfl : i = (nfK s).length := by omega
   refine wp_exit (K11 _ _ ?_)
   refine wp_rs fun _ K31 => ?_
   rw [hIF.ks] at hA
   refine s_call (R := fun u w' => (u = .tuple #[] ∧ FA 126 w14.heap.size w' b7 o2 vv (setl c (nfK (instT (nfC s) (nfK s) τ (nfK s).length))) (nfK (instT (nfC s) (nfK s) τ (nfK s).length))) ∧ Ktw b7 o2 w w') F [_] E109 rfl (by decide) (settle47 w14.heap.size b7 o2 vv c _ w hA (by rw [← hIF.ks]; omega) (nfK_lo _) hc0) ?_
   rintro _ w42 a ⟨⟨rfl, hA⟩, k43⟩ F
   have sk43 := k43.size
   have hB := k43.under hB (by omega)
   have m4 := m4.k2 k43 (by omega)
   rw [show setl c (nfK (instT (nfC s) (nfK s) τ (nfK s).length)) = nfC (instT (nfC s) (nfK s) τ (nfK s).length) from (by have := hIF.set; rw [hIF.ks] at this; exact this)] at hA
   have m7 := hA.blk
   refine s_end (K31 _ _ ?_)
   refine wp_rs fun _ K32 => F.vl (x_ldW wide59 m7 rfl rfl) fun a F => ?_
   refine s_callR (R := fun u w' => ∃ z, u = lv z ∧ RSn w' (fun k => w42.heap.size ≤ k) (levF (nfC (instT (nfC s) (nfK s) τ (nfK s).length)) (nfK (instT (nfC s) (nfK s) τ (nfK s).length))) z) [_] F E110 rfl (by decide) (level41 _ _ vv w42 (nfC_nn _) (by rw [← hIF.ks]; exact hLl) (nfK_lo _) (nfK_tm _) hA.rd) ?_
   rintro _ w44 a ⟨z, rfl, hz⟩ B45 F
   have sB45 := B45.size
   have hB := bt hB B45
   have m4 := m4.old B45
   have h1z := hz.rs.one1
   refine s_putW F rfl rfl (size_wide wide24) m4 rfl (one_lc h1z) fun w46 m4 o47 => ?_
   have so47 := o47.size
   have hB := hB.trans (o47.below (by omega))
   have hz := hz.only o47 (fun k (hk : w42.heap.size ≤ k) => by omega)
   refine s_end (K32 _ _ ?_)
   refine wp_ret (res_cell F rfl rfl m4 wide24 ⟨_, rfl, ⟨z, rfl, fun h => absurd hn h, fun s' hs' _ => ?_⟩, hB⟩)
   obtain rfl := RS.inj hs hs'
   exact ⟨fun ⟨j, hj⟩ => absurd hj (hnb j hj.1), fun _ => hz.mono (fun k hk => by omega)⟩
end Go.Proofs.Ytbhhbfdoadecgaa

namespace Go.Proofs.Ytbhhbfdoadecgaa
set_option maxRecDepth 100000
set_option maxHeartbeats 1600000
open Go.RowKit Go.Shelf
set_option linter.unusedVariables false
set_option linter.unusedSimpArgs false
theorem sndS {s : SL} {x : C3} {w0 : World} (hs : RS w0 s x) : Calls Try.prog 45 #[lv x] w0 fun e w' => ∃ v, e = .returned v ∧ (∃ b, v = .bool b ∧ (b = true ↔ s.good)) ∧ Below w0.heap.size w0 w' := by
 obtain ⟨l, hl, hg⟩ := hs.snd
 refine (rSound17 x l w0 hl).mono fun e w' ⟨h1, h2⟩ => ⟨_, h1, ⟨_, rfl, ?_⟩, h2⟩
 rw [decide_eq_true_iff]
 exact hg
theorem nfK_succ_len {n : Nat} {s : SL} (h : s.nums 1099511627776 1001) : (nfK (.succ n s)).length ≤ 1001 := by
 rw [nfK, rk]
 exact rk_len s _ [] 1001 h (by simp)
theorem trim_len : ∀ (f : Nat) (K : List Int), (trim f K).length ≤ K.length
 | 0, K => Nat.le_refl _
 | f + 1, K => by
  unfold trim
  split
  ·
   exact Nat.le_trans (trim_len f _) (by rw [List.length_take]; omega)
  ·
   exact Nat.le_refl _
theorem rInst28 (x : C3) (l : Lv) (xs : List C3) (ls : List Lv) (v : Value) (τ : Nat → SL) (w0 : World) (hL : RL w0 x l) (hV : Rd w0 v 3 xs.length (xs.flatMap lc)) (hls : xs.length = ls.length) (hl : ∀ (i : Nat) x l, xs[i]? = some x → ls[i]? = some l → RL w0 x l) (hτ : ∀ (i : Nat) x l, xs[i]? = some x → ls[i]? = some l → sndL l → RS w0 (τ i) x ∧ (τ i).good) (hτ2 : ∀ i, xs.length ≤ i → τ i = .var i) : Calls Try.prog 30 #[lv x, v] w0 fun e w' => ∃ u, e = .returned u ∧ (∃ z, u = lv z ∧ (¬ sndL l → z = (0, 0, .slice none 0 0)) ∧ ∀ s, RS w0 s x → s.good → ((∃ i, bad ls (nfK s) i) → z = (0, 0, .slice none 0 0)) ∧ ((¬ ∃ i, bad ls (nfK s) i) → RSn w' (fun k => w0.heap.size ≤ k) (levF (nfC (instT (nfC s) (nfK s) τ (nfK s).length)) (nfK (instT (nfC s) (nfK s) τ (nfK s).length))) z)) ∧ Below w0.heap.size w0 w' := by
 obtain ⟨av, cv, rfl, _⟩ := hV.form
 have hB := Below.refl w0.heap.size w0
 have sB := hB.size
 refine calls_fs 52 [(0, lv x), (1, .slice av xs.length cv)] Try.func30 rfl rfl rfl rfl rfl fun a F => ?_
 refine wp_rs fun _ K1 => ?_
 refine s_box (lc x) F (by decide) rfl rfl fun w2 b2 a eb2 m2 B3 zb2 F => ?_
 have sB3 := B3.size
 have hB := bt hB B3
 refine s_alloc F (by decide) zero24 fun w4 b4 a eb4 m4 B5 zb4 F => ?_
 have sB5 := B5.size
 have hB := bt hB B5
 have m2 := m2.old B5
 refine s_end (K1 _ _ ?_)
 refine wp_seq_k fun _ K2 => ?_
 rcases (show decide (sndL l) = false ∨ decide (sndL l) = true by cases decide (sndL l) <;> simp) with hd | hd
 ·
  have hn : ¬ sndL l := of_decide_eq_false hd
  refine wp_rs fun _ K4 => F.vl (x_ldW wide24 m2 rfl rfl) fun a F => ?_
  refine s_callB [_] F E45 rfl (by decide) (rSound17 x l w4 (hL.old hB)) fun w6 a B7 F => ?_
  have sB7 := B7.size
  have hB := bt hB B7
  have m4 := m4.old B7
  rw [hd] at F
  refine F.vl (x_not rfl) fun a F => ?_
  refine s_end (K4 _ _ ?_)
  refine wp_if F rfl ?_
  refine wp_rs fun _ K5 => F.vl (x_build (vs := []) rfl (b24_ _)) fun a F => ?_
  refine s_putW F rfl rfl (size_wide wide24) m4 rfl (one3 rfl) fun w8 m4 o9 => ?_
  have so9 := o9.size
  have hB := hB.trans (o9.below (by omega))
  refine s_end (K5 _ _ ?_)
  refine wp_ret (then_ret (res_cell F rfl rfl m4 wide24 ⟨_, rfl, ⟨(0, 0, .slice none 0 0), rfl, fun _ => rfl, fun s hs hsg => absurd (rs_snd hL hs hsg) hn⟩, hB⟩))
 ·
  have hn : sndL l := of_decide_eq_true hd
  obtain ⟨s, hs, hsg⟩ := sound_sl hL hn
  have hsl := nfK_len s hsg
  refine wp_rs fun _ K6 => F.vl (x_ldW wide24 m2 rfl rfl) fun a F => ?_
  refine s_callB [_] F E45 rfl (by decide) (rSound17 x l w4 (hL.old hB)) fun w10 a B11 F => ?_
  have sB11 := B11.size
  have hB := bt hB B11
  have m2 := m2.old B11
  have m4 := m4.old B11
  rw [hd] at F
  refine F.vl (x_not rfl) fun a F => ?_
  refine s_end (K6 _ _ ?_)
  refine wp_if F rfl ?_
  refine wp_skip (K2 _ _ ?_)
  refine wp_rs fun _ K7 => F.vl (x_ldW wide24 m2 rfl rfl) fun a F => ?_
  refine s_callR (R := fun u w' => ∃ v', u = .agg [.int .i64 (nfC s), v'].toArray ∧ Rd w' v' 1 (nfK s).length (ints (nfK s)) ∧ ∀ j, v'.ownBlock = some j → w10.heap.size ≤ j) [_] F E70 rfl (by decide) (rNorm20 s x w10 (RS.below hB hs) hsg.2.2) ?_
  rintro _ w12 a ⟨v5, rfl, hv5, hy5⟩ B13 F
  have sB13 := B13.size
  have hB := bt hB B13
  have m4 := m4.old B13
  obtain ⟨ak, ck, hvk, _⟩ := hv5.form
  subst hvk
  have hB1 := Below.refl w12.heap.size w12
  refine s_alloc F (by decide) zero36 fun w14 b5 a eb5 m5 B15 zb5 F => ?_
  have sB15 := B15.size
  have hB := bt hB B15
  have hB1 := bt hB1 B15
  have m4 := m4.old B15
  refine s_putW F rfl rfl (size_wide wide36) m5 rfl (one2 rfl) fun w16 m5 o17 => ?_
  have so17 := o17.size
  have hB := hB.trans (o17.below (by omega))
  have hB1 := hB1.trans (o17.below (by omega))
  have m4 := m4.only o17 (by omega)
  refine s_end (K7 _ _ ?_)
  refine wp_rs fun _ K8 => F.vl (x_fa0 fa36_0 rfl) fun a F => F.ld m5 flat3 rfl rfl fun a F => F.vl (x_build (vs := [(0, _)]) rfl (b36_0 _ _)) fun a F => ?_
  refine s_alloc F (by decide) zero36 fun w18 b6 a eb6 m6 B19 zb6 F => ?_
  have sB19 := B19.size
  have hB := bt hB B19
  have hB1 := bt hB1 B19
  have m4 := m4.old B19
  have m5 := m5.old B19
  refine s_putW F rfl rfl (size_wide wide36) m6 rfl (one2 rfl) fun w20 m6 o21 => ?_
  have so21 := o21.size
  have hB := hB.trans (o21.below (by omega))
  have hB1 := hB1.trans (o21.below (by omega))
  have m4 := m4.only o21 (by omega)
  have m5 := m5.only o21 (by omega)
  refine s_end (K8 _ _ ?_)
  refine wp_seq_k fun _ K9 => ?_
  refine wp_rs fun _ K10 => F.vl (x_fa0 fa36_1 rfl) fun a F => F.ld m5 flat29 rfl rfl fun a F => F.vl (x_len Try.underlying92 rfl) fun a F => F.mv rfl fun a F => ?_
  refine s_end (K10 _ _ ?_)
  refine wp_block ?_
  have hbb : w0.heap.size ≤ b4 ∧ b4 < b5 ∧ b5 < b6 ∧ w12.heap.size ≤ b5 ∧ b4 < w12.heap.size := ⟨by omega, by omega, by omega, by omega, by omega⟩
  obtain ⟨hn1, hn2⟩ := nf_num (nfC s).toNat (by have := nfC_le s; omega)
  refine wp_up (nfK s).length (fun i a w => ∃ v6, Blk w b6 94 [.int .i64 (nfC (instT (nfC s) (nfK s) τ i)), v6] ∧ Rd w v6 1 (nfK (instT (nfC s) (nfK s) τ i)).length (ints (nfK (instT (nfC s) (nfK s) τ i))) ∧ (∀ j, v6.ownBlock = some j → b6 < j) ∧ (nfK (instT (nfC s) (nfK s) τ i)).length ≤ 1001 ∧ (∀ j, j < i → ¬ bad ls (nfK s) j) ∧ Blk w b4 24 [.int .i64 0, .int .i64 0, .slice none 0 0] ∧ Below w0.heap.size w0 w ∧ Below w12.heap.size w12 w ∧ Fs 52 a [(22, .int .i64 (i : Int)), (21, .int .i64 ((nfK s).length : Int)), (20, .slice ak (nfK s).length ck), (1, .slice av xs.length cv), (4, .pointer (some ⟨b4, 0, none⟩)), (6, .pointer (some ⟨b6, 0, none⟩))]) ⟨_, by rw [instT, hn1, show (((nfC s).toNat : Nat) : Int) = nfC s by have := nfC_nn s; omega]; exact m6, by rw [instT, hn2]; exact Rd.nil _ _, (fun j h => by cases h), by rw [instT, hn2]; decide, (fun j h => by omega), m4, hB, hB1, F.sub _ rfl⟩ ?_
  repeat clear F
  clear hB hB1 m4 m6
  rintro i a w hi ⟨v6, m6, hv6, hy6, hLl, hnb, m4, hB, hB1, F⟩ K' hK'
  have sB := hB.size
  have sB1 := hB1.size
  have h6l := m6.lt
  have hvq6 : ∀ j, v6.ownBlock = some j → 0 < (nfK (instT (nfC s) (nfK s) τ i)).length → j < w.heap.size ∧ b6 < j := fun j h h0 => ⟨hv6.lt h0 h, hy6 j h⟩
  have h1v6 := hv6.one
  refine wp_rs fun _ K11 => F.vl (x_lss (b := decide (i < (nfK s).length)) (decide_eq_decide.2 (by omega)) rfl rfl) fun a F => ?_
  refine s_end (K11 _ _ ?_)
  refine wp_seq_k fun _ K12 => ?_
  refine wp_iff F rfl (fun hc23 => ?_) (fun hc23 => ?_)
  ·
   obtain ⟨b9, off9, c9, hve, hrow⟩ := rd_rowI hv5 (i := i) (by omega)
   cases hve
   have hgi := (nfK_lo s).gt i
   have hgh := nfK_hi s i
   refine wp_skip (K12 _ _ ?_)
   refine wp_seq_k fun _ K13 => ?_
   refine wp_block ?_
   refine wp_rs fun _ K14 => F.mv rfl fun a F => F.vl (x_ixa rfl rfl (m_ixs i Try.underlying92 el29.size rfl (by omega))) fun a F => F.vl (x_load rfl (m_load flat3 (hrow _ hB1))) fun a F => F.sg rfl fun a F => F.sg rfl fun a F => ?_
   refine s_end (K14 _ _ ?_)
   refine wp_seq_k fun _ K15 => ?_
   rcases (show gt (nfK s) i = -1 ∨ (gt (nfK s) i ≠ -1 ∧ xs.length ≤ i) ∨ ((gt (nfK s) i ≠ -1 ∧ i < xs.length) ∧ ∃ ly, ls[i]? = some ly ∧ decide (sndL ly) = false) ∨ ((gt (nfK s) i ≠ -1 ∧ i < xs.length) ∧ ∃ ly, ls[i]? = some ly ∧ decide (sndL ly) = true) by by_cases h1 : gt (nfK s) i = -1; (· exact .inl h1); by_cases h2 : xs.length ≤ i; (· exact .inr (.inl ⟨h1, h2⟩)); (have h3 : ls[i]? = some (ls[i]'(by omega)) := List.getElem?_eq_getElem (by omega)); cases h4 : decide (sndL (ls[i]'(by omega))); (· exact .inr (.inr (.inl ⟨⟨h1, by omega⟩, _, h3, h4⟩))); (· exact .inr (.inr (.inr ⟨⟨h1, by omega⟩, _, h3, h4⟩)))) with hg | ⟨hc8, hg⟩ | ⟨⟨hc8, hg⟩, ly, hli, hd2⟩ | ⟨⟨hc8, hg⟩, ly, hli, hd2⟩
   ·
    have hnb2 : ∀ j, j < i + 1 → ¬ bad ls (nfK s) j := by
     intro j hj hb
     rcases Nat.lt_or_ge j i with h | h
     ·
      exact hnb j h hb
     ·
      have hji : j = i := by omega
      subst hji
      exact hb.2.1 hg
    have hT2 : instT (nfC s) (nfK s) τ (i + 1) = (instT (nfC s) (nfK s) τ i) := by rw [instT, if_pos hg]
    refine wp_rs fun _ K17 => F.mv rfl fun a F => F.vl (lssT (by omega) rfl rfl) fun a F => ?_
    refine s_end (K17 _ _ ?_)
    refine wp_if F rfl ?_
    refine wp_exit (K13 _ _ ?_)
    refine wp_region_lit ?_
    refine F.vl (x_addn (i + 1) (by omega) (by omega) rfl rfl) fun a F => F.mv rfl fun a F => ?_
    refine s_end (hK' _ _ (by omega) ⟨v6, by rw [hT2]; exact m6, by rw [hT2]; exact hv6, hy6, by rw [hT2]; exact hLl, hnb2, m4, hB, hB1, F.sub _ rfl⟩)
   ·
    have hstep : instT (nfC s) (nfK s) τ (i + 1) = .mx (instT (nfC s) (nfK s) τ i) (.succ (gt (nfK s) i).toNat (τ i)) := by rw [instT, if_neg hc8]
    have hti : RS w0 (τ i) (2, (i : Int), .slice none 0 0) ∧ (τ i).good := by rw [hτ2 i hg]; exact ⟨⟨rfl, rfl, Rd.nil _ _⟩, by simp [SL.size], by simp [SL.dep], by show i < 1001; omega⟩
    have hnb2 : ∀ j, j < i + 1 → ¬ bad ls (nfK s) j := by
     intro j hj hb
     rcases Nat.lt_or_ge j i with h | h
     ·
      exact hnb j h hb
     ·
      have hji : j = i := by omega
      subst hji
      exact by obtain ⟨_, _, l9, h9, _⟩ := hb; have := (List.getElem?_eq_some_iff.1 h9).1; omega
    refine wp_rs fun _ K18 => F.mv rfl fun a F => F.vl (lssF (by omega) rfl rfl) fun a F => ?_
    refine s_end (K18 _ _ ?_)
    refine wp_if F rfl ?_
    refine wp_skip (K15 _ _ ?_)
    refine wp_rs fun _ K19 => F.mv rfl fun a F => F.vl (x_build (vs := [(0, _), (1, _)]) rfl (b24_01 _ _ _)) fun a F => ?_
    refine s_alloc F (by decide) zero24 fun w22 b9 a eb9 m9 B23 zb9 F => ?_
    have sB23 := B23.size
    have hB := bt hB B23
    have hB1 := bt hB1 B23
    have m4 := m4.old B23
    have m6 := m6.old B23
    have hv6 := hv6.below B23
    refine s_putW F rfl rfl (size_wide wide24) m9 rfl (one3 rfl) fun w24 m9 o25 => ?_
    have so25 := o25.size
    have hB := hB.trans (o25.below (by omega))
    have hB1 := hB1.trans (o25.below (by omega))
    have m4 := m4.only o25 (by omega)
    have m6 := m6.only o25 (by omega)
    have hv6 := rd_onlyZ hv6 o25 (fun j h hp => by have := hvq6 j h hp; omega)
    refine s_end (K19 _ _ ?_)
    refine wp_seq_k fun _ K20 => ?_
    refine wp_rs fun _ K21 => F.mv rfl fun a F => F.mv rfl fun a F => F.vl (x_len Try.underlying22 rfl) fun a F => F.vl (lssF (by omega) rfl rfl) fun a F => ?_
    refine s_end (K21 _ _ ?_)
    refine wp_if F rfl ?_
    refine wp_skip (K20 _ _ ?_)
    refine wp_seq_k fun _ K22 => ?_
    refine wp_rs fun _ K23 => F.vl (x_ldW wide24 m9 rfl rfl) fun a F => ?_
    refine s_callR (R := fun v w' => ∃ b, v = .bool b ∧ (b = true ↔ (SL.var i).good)) [_] F E45 rfl (by decide) (sndS (s := .var i) (x := (2, (i : Int), .slice none 0 0)) ⟨rfl, rfl, Rd.nil _ _⟩) ?_
    rintro _ w26 a ⟨bm, rfl, hbm⟩ B27 F
    have sB27 := B27.size
    have hB := bt hB B27
    have hB1 := bt hB1 B27
    have m4 := m4.old B27
    have m6 := m6.old B27
    have hv6 := hv6.below B27
    have m9 := m9.old B27
    obtain rfl : bm = true := hbm.2 ⟨by simp [SL.size], by simp [SL.dep], by show i < 1001; omega⟩
    refine F.vl (x_not rfl) fun a F => ?_
    refine s_end (K23 _ _ ?_)
    refine wp_if F rfl ?_
    refine wp_skip (K22 _ _ ?_)
    refine dk2_one (b6) (b6) (ops := regOps Try.f30 14) (N := 7) (by kernel_rfl) wide_orders (by kernel_rfl) fun w28 hw28 B29 hS K24 hK24 => ?_
    have zw28 : w28.heap.size = w26.heap.size := by rw [hw28]
    have sB29 := B29.size
    have hB := bt hB B29
    have hB1 := bt hB1 B29
    have m4 := m4.old B29
    have m6 := m6.old B29
    have hv6 := hv6.below B29
    have m9 := m9.old B29
    have m4_d := m4
    have m6_d := m6
    have hv6_d := hv6
    have m9_d := m9
    have hB_d := hB
    have hB1_d := hB1
    refine F.dv 1 44 (.load 24 (.tmp 9)) hS (fun W hW => x_ldW wide24 (m9_d.k2 hW (by omega)) rfl rfl) fun a F => F.dv 3 46 (.move (.tmp 8)) hS (fun W hW => x_move rfl) fun a F => ?_
    refine d_two 0 2 (by kernel_rfl) ?_ ?_
    ·
     refine d_op 0 (some 43) (.load 94 (.tmp 6)) (by kernel_rfl) fun ty pos af => ?_
     refine F.vl (x_ldW wide36 m6 rfl rfl) fun a F => ?_
     refine s_end ⟨hS, ?_⟩
     refine d1 2 (some 45) (.call (.mk (.value (.func 70)) #[(.tmp 44)] #[24])) fun ty pos af => ?_
     refine s_callR (R := fun u w' => ∃ v', u = .agg [.int .i64 (nfC (τ i)), v'].toArray ∧ Rd w' v' 1 (nfK (τ i)).length (ints (nfK (τ i))) ∧ ∀ j, v'.ownBlock = some j → w28.heap.size ≤ j) [_] F E70 rfl (by decide) (rNorm20 (τ i) (2, (i : Int), .slice none 0 0) w28 (RS.below hB hti.1) hti.2.2.2) ?_
     rintro _ w30 a ⟨v7, rfl, hv7, hy7⟩ B31 F
     have sB31 := B31.size
     have hB := bt hB B31
     have hB1 := bt hB1 B31
     have m4 := m4.old B31
     have m6 := m6.old B31
     have hv6 := hv6.below B31
     have hS := hS.below B31
     have hvq7 : ∀ j, v7.ownBlock = some j → 0 < (nfK (τ i)).length → j < w30.heap.size ∧ w28.heap.size ≤ j := fun j h h0 => ⟨hv7.lt h0 h, hy7 j h⟩
     refine s_end ⟨hS, ?_⟩
     refine d1 4 (some 47) (.call (.mk (.value (.func 72)) #[(.tmp 45), (.tmp 46)] #[94, 3])) fun ty pos af => ?_
     refine s_callR (R := fun u w' => ∃ v', u = .agg [.int .i64 (setl (plusC (nfC (τ i)) (nfK (τ i)) (gt (nfK s) i)) (tidyK (plusK (nfK (τ i)) (gt (nfK s) i)))), v'].toArray ∧ Rd w' v' 1 (tidyK (plusK (nfK (τ i)) (gt (nfK s) i))).length (ints (tidyK (plusK (nfK (τ i)) (gt (nfK s) i)))) ∧ ∀ j, v'.ownBlock = some j → w30.heap.size ≤ j) [_, _] F E72 rfl (by decide) (plus42 (nfC (τ i)) (nfK (τ i)) _ (gt (nfK s) i) w30 (nfC_nn _) (nfC_le _) (by omega) (by omega) (by have := nfK_len _ hti.2; omega) (nfK_lo _) (nfK_hi _) hv7) ?_
     rintro _ w32 a ⟨v8, rfl, hv8, hy8⟩ B33 F
     have sB33 := B33.size
     have hB := bt hB B33
     have hB1 := bt hB1 B33
     have m4 := m4.old B33
     have m6 := m6.old B33
     have hv6 := hv6.below B33
     have hS := hS.below B33
     rw [show gt (nfK s) i = (((gt (nfK s) i).toNat : Nat) : Int) by omega] at hv8 F
     rw [plusK_is] at hv8 F
     rw [plusC_is] at F
     have hvq8 : ∀ j, v8.ownBlock = some j → 0 < (nfK (.succ (gt (nfK s) i).toNat (τ i))).length → j < w32.heap.size ∧ w30.heap.size ≤ j := fun j h h0 => ⟨hv8.lt h0 h, hy8 j h⟩
     refine s_end ⟨hS, ?_⟩
     refine d1 5 (some 48) (.call (.mk (.value (.func 71)) #[(.tmp 43), (.tmp 47)] #[94, 94])) fun ty pos af => ?_
     refine s_callR (R := fun u w' => ∃ v', u = .agg [.int .i64 (setl (max (nfC (instT (nfC s) (nfK s) τ i)) (nfC (.succ (gt (nfK s) i).toNat (τ i)))) (tidyK (bothK (nfK (instT (nfC s) (nfK s) τ i)) (nfK (.succ (gt (nfK s) i).toNat (τ i)))))), v'].toArray ∧ Rd w' v' 1 (tidyK (bothK (nfK (instT (nfC s) (nfK s) τ i)) (nfK (.succ (gt (nfK s) i).toNat (τ i))))).length (ints (tidyK (bothK (nfK (instT (nfC s) (nfK s) τ i)) (nfK (.succ (gt (nfK s) i).toNat (τ i)))))) ∧ ∀ j, v'.ownBlock = some j → w32.heap.size ≤ j) [_, _] F E71 rfl (by decide) (both43 (nfC (instT (nfC s) (nfK s) τ i)) (nfC (.succ (gt (nfK s) i).toNat (τ i))) (nfK (instT (nfC s) (nfK s) τ i)) (nfK (.succ (gt (nfK s) i).toNat (τ i))) _ _ w32 (nfC_nn _) (nfC_nn _) (by omega) (by have := nfK_succ_len (n := (gt (nfK s) i).toNat) hti.2.2.2; omega) (nfK_lo _) (nfK_lo _) hv6 hv8) ?_
     rintro _ w34 a ⟨v3, rfl, hv3, hy3⟩ B35 F
     have sB35 := B35.size
     have hB := bt hB B35
     have hB1 := bt hB1 B35
     have m4 := m4.old B35
     have m6 := m6.old B35
     have hS := hS.below B35
     rw [bothK_is] at hv3 F
     rw [← nfC_mx] at F
     rw [← hstep] at hv3 F
     have h1v3 := hv3.one
     have hvq3 : ∀ j, v3.ownBlock = some j → 0 < (nfK (instT (nfC s) (nfK s) τ (i + 1))).length → j < w34.heap.size ∧ w32.heap.size ≤ j := fun j h h0 => ⟨hv3.lt h0 h, hy3 j h⟩
     have hl3 : (nfK (instT (nfC s) (nfK s) τ (i + 1))).length ≤ 1001 := by
      have e1 : (nfK (instT (nfC s) (nfK s) τ (i + 1))).length ≤ max (nfK (instT (nfC s) (nfK s) τ i)).length (nfK (.succ (gt (nfK s) i).toNat (τ i))).length := by
       rw [hstep, ← bothK_is]
       exact Nat.le_trans (trim_len _ _) (by simp [bothK])
      have e2 := nfK_succ_len (n := (gt (nfK s) i).toNat) hti.2.2.2
      omega
     refine s_end ⟨hS, ?_⟩
     refine d1 6 none (.store 94 (.tmp 6) (.tmp 48)) fun ty pos af => ?_
     refine s_putW F rfl rfl (size_wide wide36) m6 rfl (one2 h1v3) fun w36 m6 o37 => ?_
     have so37 := o37.size
     have hB := hB.trans (o37.below (by omega))
     have hB1 := hB1.trans (o37.below (by omega))
     have m4 := m4.only o37 (by omega)
     have hv3 := rd_onlyZ hv3 o37 (fun j h hp => by have := hvq3 j h hp; omega)
     have hS := hS.only o37 (by omega)
     refine s_end ⟨hS, ?_⟩
     refine d_end (by kernel_rfl) (hK24 _ _ ?_)
     refine K13 _ _ ?_
     refine wp_region_lit ?_
     refine F.vl (x_addn (i + 1) (by omega) (by omega) rfl rfl) fun a F => F.mv rfl fun a F => ?_
     refine s_end (hK' _ _ (by omega) ⟨v3, m6, hv3, (fun j h => by have := hy3 j h; omega), hl3, hnb2, m4, hB, hB1, F.sub _ rfl⟩)
    ·
     refine d_op 2 (some 45) (.call (.mk (.value (.func 70)) #[(.tmp 44)] #[24])) (by kernel_rfl) fun ty pos af => ?_
     refine s_callR (R := fun u w' => ∃ v', u = .agg [.int .i64 (nfC (τ i)), v'].toArray ∧ Rd w' v' 1 (nfK (τ i)).length (ints (nfK (τ i))) ∧ ∀ j, v'.ownBlock = some j → w28.heap.size ≤ j) [_] F E70 rfl (by decide) (rNorm20 (τ i) (2, (i : Int), .slice none 0 0) w28 (RS.below hB hti.1) hti.2.2.2) ?_
     rintro _ w38 a ⟨v7, rfl, hv7, hy7⟩ B39 F
     have sB39 := B39.size
     have hB := bt hB B39
     have hB1 := bt hB1 B39
     have m4 := m4.old B39
     have m6 := m6.old B39
     have hv6 := hv6.below B39
     have hS := hS.below B39
     have hvq7 : ∀ j, v7.ownBlock = some j → 0 < (nfK (τ i)).length → j < w38.heap.size ∧ w28.heap.size ≤ j := fun j h h0 => ⟨hv7.lt h0 h, hy7 j h⟩
     refine s_end ⟨hS, ?_⟩
     refine d_two 0 4 (by kernel_rfl) ?_ ?_
     ·
      refine d_op 0 (some 43) (.load 94 (.tmp 6)) (by kernel_rfl) fun ty pos af => ?_
      refine F.vl (x_ldW wide36 m6 rfl rfl) fun a F => ?_
      refine s_end ⟨hS, ?_⟩
      refine d1 4 (some 47) (.call (.mk (.value (.func 72)) #[(.tmp 45), (.tmp 46)] #[94, 3])) fun ty pos af => ?_
      refine s_callR (R := fun u w' => ∃ v', u = .agg [.int .i64 (setl (plusC (nfC (τ i)) (nfK (τ i)) (gt (nfK s) i)) (tidyK (plusK (nfK (τ i)) (gt (nfK s) i)))), v'].toArray ∧ Rd w' v' 1 (tidyK (plusK (nfK (τ i)) (gt (nfK s) i))).length (ints (tidyK (plusK (nfK (τ i)) (gt (nfK s) i)))) ∧ ∀ j, v'.ownBlock = some j → w38.heap.size ≤ j) [_, _] F E72 rfl (by decide) (plus42 (nfC (τ i)) (nfK (τ i)) _ (gt (nfK s) i) w38 (nfC_nn _) (nfC_le _) (by omega) (by omega) (by have := nfK_len _ hti.2; omega) (nfK_lo _) (nfK_hi _) hv7) ?_
      rintro _ w40 a ⟨v8, rfl, hv8, hy8⟩ B41 F
      have sB41 := B41.size
      have hB := bt hB B41
      have hB1 := bt hB1 B41
      have m4 := m4.old B41
      have m6 := m6.old B41
      have hv6 := hv6.below B41
      have hS := hS.below B41
      rw [show gt (nfK s) i = (((gt (nfK s) i).toNat : Nat) : Int) by omega] at hv8 F
      rw [plusK_is] at hv8 F
      rw [plusC_is] at F
      have hvq8 : ∀ j, v8.ownBlock = some j → 0 < (nfK (.succ (gt (nfK s) i).toNat (τ i))).length → j < w40.heap.size ∧ w38.heap.size ≤ j := fun j h h0 => ⟨hv8.lt h0 h, hy8 j h⟩
      refine s_end ⟨hS, ?_⟩
      refine d1 5 (some 48) (.call (.mk (.value (.func 71)) #[(.tmp 43), (.tmp 47)] #[94, 94])) fun ty pos af => ?_
      refine s_callR (R := fun u w' => ∃ v', u = .agg [.int .i64 (setl (max (nfC (instT (nfC s) (nfK s) τ i)) (nfC (.succ (gt (nfK s) i).toNat (τ i)))) (tidyK (bothK (nfK (instT (nfC s) (nfK s) τ i)) (nfK (.succ (gt (nfK s) i).toNat (τ i)))))), v'].toArray ∧ Rd w' v' 1 (tidyK (bothK (nfK (instT (nfC s) (nfK s) τ i)) (nfK (.succ (gt (nfK s) i).toNat (τ i))))).length (ints (tidyK (bothK (nfK (instT (nfC s) (nfK s) τ i)) (nfK (.succ (gt (nfK s) i).toNat (τ i)))))) ∧ ∀ j, v'.ownBlock = some j → w40.heap.size ≤ j) [_, _] F E71 rfl (by decide) (both43 (nfC (instT (nfC s) (nfK s) τ i)) (nfC (.succ (gt (nfK s) i).toNat (τ i))) (nfK (instT (nfC s) (nfK s) τ i)) (nfK (.succ (gt (nfK s) i).toNat (τ i))) _ _ w40 (nfC_nn _) (nfC_nn _) (by omega) (by have := nfK_succ_len (n := (gt (nfK s) i).toNat) hti.2.2.2; omega) (nfK_lo _) (nfK_lo _) hv6 hv8) ?_
      rintro _ w42 a ⟨v3, rfl, hv3, hy3⟩ B43 F
      have sB43 := B43.size
      have hB := bt hB B43
      have hB1 := bt hB1 B43
      have m4 := m4.old B43
      have m6 := m6.old B43
      have hS := hS.below B43
      rw [bothK_is] at hv3 F
      rw [← nfC_mx] at F
      rw [← hstep] at hv3 F
      have h1v3 := hv3.one
      have hvq3 : ∀ j, v3.ownBlock = some j → 0 < (nfK (instT (nfC s) (nfK s) τ (i + 1))).length → j < w42.heap.size ∧ w40.heap.size ≤ j := fun j h h0 => ⟨hv3.lt h0 h, hy3 j h⟩
      have hl3 : (nfK (instT (nfC s) (nfK s) τ (i + 1))).length ≤ 1001 := by
       have e1 : (nfK (instT (nfC s) (nfK s) τ (i + 1))).length ≤ max (nfK (instT (nfC s) (nfK s) τ i)).length (nfK (.succ (gt (nfK s) i).toNat (τ i))).length := by
        rw [hstep, ← bothK_is]
        exact Nat.le_trans (trim_len _ _) (by simp [bothK])
       have e2 := nfK_succ_len (n := (gt (nfK s) i).toNat) hti.2.2.2
       omega
      refine s_end ⟨hS, ?_⟩
      refine d1 6 none (.store 94 (.tmp 6) (.tmp 48)) fun ty pos af => ?_
      refine s_putW F rfl rfl (size_wide wide36) m6 rfl (one2 h1v3) fun w44 m6 o45 => ?_
      have so45 := o45.size
      have hB := hB.trans (o45.below (by omega))
      have hB1 := hB1.trans (o45.below (by omega))
      have m4 := m4.only o45 (by omega)
      have hv3 := rd_onlyZ hv3 o45 (fun j h hp => by have := hvq3 j h hp; omega)
      have hS := hS.only o45 (by omega)
      refine s_end ⟨hS, ?_⟩
      refine d_end (by kernel_rfl) (hK24 _ _ ?_)
      refine K13 _ _ ?_
      refine wp_region_lit ?_
      refine F.vl (x_addn (i + 1) (by omega) (by omega) rfl rfl) fun a F => F.mv rfl fun a F => ?_
      refine s_end (hK' _ _ (by omega) ⟨v3, m6, hv3, (fun j h => by have := hy3 j h; omega), hl3, hnb2, m4, hB, hB1, F.sub _ rfl⟩)
     ·
      refine d_op 4 (some 47) (.call (.mk (.value (.func 72)) #[(.tmp 45), (.tmp 46)] #[94, 3])) (by kernel_rfl) fun ty pos af => ?_
      refine s_callR (R := fun u w' => ∃ v', u = .agg [.int .i64 (setl (plusC (nfC (τ i)) (nfK (τ i)) (gt (nfK s) i)) (tidyK (plusK (nfK (τ i)) (gt (nfK s) i)))), v'].toArray ∧ Rd w' v' 1 (tidyK (plusK (nfK (τ i)) (gt (nfK s) i))).length (ints (tidyK (plusK (nfK (τ i)) (gt (nfK s) i)))) ∧ ∀ j, v'.ownBlock = some j → w38.heap.size ≤ j) [_, _] F E72 rfl (by decide) (plus42 (nfC (τ i)) (nfK (τ i)) _ (gt (nfK s) i) w38 (nfC_nn _) (nfC_le _) (by omega) (by omega) (by have := nfK_len _ hti.2; omega) (nfK_lo _) (nfK_hi _) hv7) ?_
      rintro _ w46 a ⟨v8, rfl, hv8, hy8⟩ B47 F
      have sB47 := B47.size
      have hB := bt hB B47
      have hB1 := bt hB1 B47
      have m4 := m4.old B47
      have m6 := m6.old B47
      have hv6 := hv6.below B47
      have hS := hS.below B47
      rw [show gt (nfK s) i = (((gt (nfK s) i).toNat : Nat) : Int) by omega] at hv8 F
      rw [plusK_is] at hv8 F
      rw [plusC_is] at F
      have hvq8 : ∀ j, v8.ownBlock = some j → 0 < (nfK (.succ (gt (nfK s) i).toNat (τ i))).length → j < w46.heap.size ∧ w38.heap.size ≤ j := fun j h h0 => ⟨hv8.lt h0 h, hy8 j h⟩
      refine s_end ⟨hS, ?_⟩
      refine d1 0 (some 43) (.load 94 (.tmp 6)) fun ty pos af => ?_
      refine F.vl (x_ldW wide36 m6 rfl rfl) fun a F => ?_
      refine s_end ⟨hS, ?_⟩
      refine d1 5 (some 48) (.call (.mk (.value (.func 71)) #[(.tmp 43), (.tmp 47)] #[94, 94])) fun ty pos af => ?_
      refine s_callR (R := fun u w' => ∃ v', u = .agg [.int .i64 (setl (max (nfC (instT (nfC s) (nfK s) τ i)) (nfC (.succ (gt (nfK s) i).toNat (τ i)))) (tidyK (bothK (nfK (instT (nfC s) (nfK s) τ i)) (nfK (.succ (gt (nfK s) i).toNat (τ i)))))), v'].toArray ∧ Rd w' v' 1 (tidyK (bothK (nfK (instT (nfC s) (nfK s) τ i)) (nfK (.succ (gt (nfK s) i).toNat (τ i))))).length (ints (tidyK (bothK (nfK (instT (nfC s) (nfK s) τ i)) (nfK (.succ (gt (nfK s) i).toNat (τ i)))))) ∧ ∀ j, v'.ownBlock = some j → w46.heap.size ≤ j) [_, _] F E71 rfl (by decide) (both43 (nfC (instT (nfC s) (nfK s) τ i)) (nfC (.succ (gt (nfK s) i).toNat (τ i))) (nfK (instT (nfC s) (nfK s) τ i)) (nfK (.succ (gt (nfK s) i).toNat (τ i))) _ _ w46 (nfC_nn _) (nfC_nn _) (by omega) (by have := nfK_succ_len (n := (gt (nfK s) i).toNat) hti.2.2.2; omega) (nfK_lo _) (nfK_lo _) hv6 hv8) ?_
      rintro _ w48 a ⟨v3, rfl, hv3, hy3⟩ B49 F
      have sB49 := B49.size
      have hB := bt hB B49
      have hB1 := bt hB1 B49
      have m4 := m4.old B49
      have m6 := m6.old B49
      have hS := hS.below B49
      rw [bothK_is] at hv3 F
      rw [← nfC_mx] at F
      rw [← hstep] at hv3 F
      have h1v3 := hv3.one
      have hvq3 : ∀ j, v3.ownBlock = some j → 0 < (nfK (instT (nfC s) (nfK s) τ (i + 1))).length → j < w48.heap.size ∧ w46.heap.size ≤ j := fun j h h0 => ⟨hv3.lt h0 h, hy3 j h⟩
      have hl3 : (nfK (instT (nfC s) (nfK s) τ (i + 1))).length ≤ 1001 := by
       have e1 : (nfK (instT (nfC s) (nfK s) τ (i + 1))).length ≤ max (nfK (instT (nfC s) (nfK s) τ i)).length (nfK (.succ (gt (nfK s) i).toNat (τ i))).length := by
        rw [hstep, ← bothK_is]
        exact Nat.le_trans (trim_len _ _) (by simp [bothK])
       have e2 := nfK_succ_len (n := (gt (nfK s) i).toNat) hti.2.2.2
       omega
      refine s_end ⟨hS, ?_⟩
      refine d1 6 none (.store 94 (.tmp 6) (.tmp 48)) fun ty pos af => ?_
      refine s_putW F rfl rfl (size_wide wide36) m6 rfl (one2 h1v3) fun w50 m6 o51 => ?_
      have so51 := o51.size
      have hB := hB.trans (o51.below (by omega))
      have hB1 := hB1.trans (o51.below (by omega))
      have m4 := m4.only o51 (by omega)
      have hv3 := rd_onlyZ hv3 o51 (fun j h hp => by have := hvq3 j h hp; omega)
      have hS := hS.only o51 (by omega)
      refine s_end ⟨hS, ?_⟩
      refine d_end (by kernel_rfl) (hK24 _ _ ?_)
      refine K13 _ _ ?_
      refine wp_region_lit ?_
      refine F.vl (x_addn (i + 1) (by omega) (by omega) rfl rfl) fun a F => F.mv rfl fun a F => ?_
      refine s_end (hK' _ _ (by omega) ⟨v3, m6, hv3, (fun j h => by have := hy3 j h; omega), hl3, hnb2, m4, hB, hB1, F.sub _ rfl⟩)
   ·
    have hstep : instT (nfC s) (nfK s) τ (i + 1) = .mx (instT (nfC s) (nfK s) τ i) (.succ (gt (nfK s) i).toNat (τ i)) := by rw [instT, if_neg hc8]
    obtain ⟨b8, off8, c8, y, hve, hy, hrowv⟩ := rd_row3 hV (i := i) hg
    cases hve
    have hyl := hl i y ly hy hli
    have hi1 : i < (nfK s).length := hc23
    have h1y := hyl.one1
    have hnl : ¬ sndL ly := of_decide_eq_false hd2
    refine wp_rs fun _ K25 => F.mv rfl fun a F => F.vl (lssF (by omega) rfl rfl) fun a F => ?_
    refine s_end (K25 _ _ ?_)
    refine wp_if F rfl ?_
    refine wp_skip (K15 _ _ ?_)
    refine wp_rs fun _ K26 => F.mv rfl fun a F => F.vl (x_build (vs := [(0, _), (1, _)]) rfl (b24_01 _ _ _)) fun a F => ?_
    refine s_alloc F (by decide) zero24 fun w52 b9 a eb9 m9 B53 zb9 F => ?_
    have sB53 := B53.size
    have hB := bt hB B53
    have m4 := m4.old B53
    refine s_putW F rfl rfl (size_wide wide24) m9 rfl (one3 rfl) fun w54 m9 o55 => ?_
    have so55 := o55.size
    have hB := hB.trans (o55.below (by omega))
    have m4 := m4.only o55 (by omega)
    refine s_end (K26 _ _ ?_)
    refine wp_seq_k fun _ K27 => ?_
    refine wp_rs fun _ K28 => F.mv rfl fun a F => F.mv rfl fun a F => F.vl (x_len Try.underlying22 rfl) fun a F => F.vl (lssT (by omega) rfl rfl) fun a F => ?_
    refine s_end (K28 _ _ ?_)
    refine wp_if F rfl ?_
    refine wp_region_lit ?_
    refine F.mv rfl fun a F => F.mv rfl fun a F => F.vl (x_ixa rfl rfl (m_ixsK i Try.underlying22 el22.size rfl (by omega))) fun a F => F.vl (x_ldA wide24 (hrowv _ hB) rfl rfl) fun a F => ?_
    refine s_putW F rfl rfl (size_wide wide24) m9 rfl (one_lc h1y) fun w56 m9 o57 => ?_
    have so57 := o57.size
    have hB := hB.trans (o57.below (by omega))
    have m4 := m4.only o57 (by omega)
    refine s_end (K27 _ _ ?_)
    refine wp_seq_k fun _ K29 => ?_
    refine wp_rs fun _ K30 => F.vl (x_ldW wide24 m9 rfl rfl) fun a F => ?_
    refine s_callB [_] F E45 rfl (by decide) (rSound17 y ly w56 (hyl.old hB)) fun w58 a B59 F => ?_
    have sB59 := B59.size
    have hB := bt hB B59
    have m4 := m4.old B59
    rw [hd2] at F
    refine F.vl (x_not rfl) fun a F => ?_
    refine s_end (K30 _ _ ?_)
    refine wp_if F rfl ?_
    refine wp_rs fun _ K31 => F.vl (x_build (vs := []) rfl (b24_ _)) fun a F => ?_
    refine s_putW F rfl rfl (size_wide wide24) m4 rfl (one3 rfl) fun w60 m4 o61 => ?_
    have so61 := o61.size
    have hB := hB.trans (o61.below (by omega))
    refine s_end (K31 _ _ ?_)
    refine wp_ret (then_ret (inb_ret (then_ret (then_ret (inb_ret (then_ret (res_cell F rfl rfl m4 wide24 ⟨_, rfl, ⟨(0, 0, .slice none 0 0), rfl, fun _ => rfl, fun s' hs' _ => ?_⟩, hB⟩)))))))
    obtain rfl := RS.inj hs hs'
    exact ⟨fun _ => rfl, fun h => absurd ⟨i, hi1, hc8, _, hli, hnl⟩ h⟩
   ·
    have hstep : instT (nfC s) (nfK s) τ (i + 1) = .mx (instT (nfC s) (nfK s) τ i) (.succ (gt (nfK s) i).toNat (τ i)) := by rw [instT, if_neg hc8]
    obtain ⟨b8, off8, c8, y, hve, hy, hrowv⟩ := rd_row3 hV (i := i) hg
    cases hve
    have hyl := hl i y ly hy hli
    have hi1 : i < (nfK s).length := hc23
    have h1y := hyl.one1
    have hnl : sndL ly := of_decide_eq_true hd2
    have hti := hτ i y ly hy hli hnl
    have hnb2 : ∀ j, j < i + 1 → ¬ bad ls (nfK s) j := by
     intro j hj hb
     rcases Nat.lt_or_ge j i with h | h
     ·
      exact hnb j h hb
     ·
      have hji : j = i := by omega
      subst hji
      exact by obtain ⟨_, _, l9, h9, h10⟩ := hb; rw [hli] at h9; cases h9; exact h10 hnl
    refine wp_rs fun _ K32 => F.mv rfl fun a F => F.vl (lssF (by omega) rfl rfl) fun a F => ?_
    refine s_end (K32 _ _ ?_)
    refine wp_if F rfl ?_
    refine wp_skip (K15 _ _ ?_)
    refine wp_rs fun _ K33 => F.mv rfl fun a F => F.vl (x_build (vs := [(0, _), (1, _)]) rfl (b24_01 _ _ _)) fun a F => ?_
    refine s_alloc F (by decide) zero24 fun w62 b9 a eb9 m9 B63 zb9 F => ?_
    have sB63 := B63.size
    have hB := bt hB B63
    have hB1 := bt hB1 B63
    have m4 := m4.old B63
    have m6 := m6.old B63
    have hv6 := hv6.below B63
    refine s_putW F rfl rfl (size_wide wide24) m9 rfl (one3 rfl) fun w64 m9 o65 => ?_
    have so65 := o65.size
    have hB := hB.trans (o65.below (by omega))
    have hB1 := hB1.trans (o65.below (by omega))
    have m4 := m4.only o65 (by omega)
    have m6 := m6.only o65 (by omega)
    have hv6 := rd_onlyZ hv6 o65 (fun j h hp => by have := hvq6 j h hp; omega)
    refine s_end (K33 _ _ ?_)
    refine wp_seq_k fun _ K34 => ?_
    refine wp_rs fun _ K35 => F.mv rfl fun a F => F.mv rfl fun a F => F.vl (x_len Try.underlying22 rfl) fun a F => F.vl (lssT (by omega) rfl rfl) fun a F => ?_
    refine s_end (K35 _ _ ?_)
    refine wp_if F rfl ?_
    refine wp_region_lit ?_
    refine F.mv rfl fun a F => F.mv rfl fun a F => F.vl (x_ixa rfl rfl (m_ixsK i Try.underlying22 el22.size rfl (by omega))) fun a F => F.vl (x_ldA wide24 (hrowv _ hB) rfl rfl) fun a F => ?_
    refine s_putW F rfl rfl (size_wide wide24) m9 rfl (one_lc h1y) fun w66 m9 o67 => ?_
    have so67 := o67.size
    have hB := hB.trans (o67.below (by omega))
    have hB1 := hB1.trans (o67.below (by omega))
    have m4 := m4.only o67 (by omega)
    have m6 := m6.only o67 (by omega)
    have hv6 := rd_onlyZ hv6 o67 (fun j h hp => by have := hvq6 j h hp; omega)
    refine s_end (K34 _ _ ?_)
    refine wp_seq_k fun _ K36 => ?_
    refine wp_rs fun _ K37 => F.vl (x_ldW wide24 m9 rfl rfl) fun a F => ?_
    refine s_callB [_] F E45 rfl (by decide) (rSound17 y ly w66 (hyl.old hB)) fun w68 a B69 F => ?_
    have sB69 := B69.size
    have hB := bt hB B69
    have hB1 := bt hB1 B69
    have m4 := m4.old B69
    have m6 := m6.old B69
    have hv6 := hv6.below B69
    have m9 := m9.old B69
    rw [hd2] at F
    refine F.vl (x_not rfl) fun a F => ?_
    refine s_end (K37 _ _ ?_)
    refine wp_if F rfl ?_
    refine wp_skip (K36 _ _ ?_)
    refine dk2_one (b6) (b6) (ops := regOps Try.f30 14) (N := 7) (by kernel_rfl) wide_orders (by kernel_rfl) fun w70 hw70 B71 hS K38 hK38 => ?_
    have zw70 : w70.heap.size = w68.heap.size := by rw [hw70]
    have sB71 := B71.size
    have hB := bt hB B71
    have hB1 := bt hB1 B71
    have m4 := m4.old B71
    have m6 := m6.old B71
    have hv6 := hv6.below B71
    have m9 := m9.old B71
    have m4_d := m4
    have m6_d := m6
    have hv6_d := hv6
    have m9_d := m9
    have hB_d := hB
    have hB1_d := hB1
    refine F.dv 1 44 (.load 24 (.tmp 9)) hS (fun W hW => x_ldW wide24 (m9_d.k2 hW (by omega)) rfl rfl) fun a F => F.dv 3 46 (.move (.tmp 8)) hS (fun W hW => x_move rfl) fun a F => ?_
    refine d_two 0 2 (by kernel_rfl) ?_ ?_
    ·
     refine d_op 0 (some 43) (.load 94 (.tmp 6)) (by kernel_rfl) fun ty pos af => ?_
     refine F.vl (x_ldW wide36 m6 rfl rfl) fun a F => ?_
     refine s_end ⟨hS, ?_⟩
     refine d1 2 (some 45) (.call (.mk (.value (.func 70)) #[(.tmp 44)] #[24])) fun ty pos af => ?_
     refine s_callR (R := fun u w' => ∃ v', u = .agg [.int .i64 (nfC (τ i)), v'].toArray ∧ Rd w' v' 1 (nfK (τ i)).length (ints (nfK (τ i))) ∧ ∀ j, v'.ownBlock = some j → w70.heap.size ≤ j) [_] F E70 rfl (by decide) (rNorm20 (τ i) y w70 (RS.below hB hti.1) hti.2.2.2) ?_
     rintro _ w72 a ⟨v7, rfl, hv7, hy7⟩ B73 F
     have sB73 := B73.size
     have hB := bt hB B73
     have hB1 := bt hB1 B73
     have m4 := m4.old B73
     have m6 := m6.old B73
     have hv6 := hv6.below B73
     have hS := hS.below B73
     have hvq7 : ∀ j, v7.ownBlock = some j → 0 < (nfK (τ i)).length → j < w72.heap.size ∧ w70.heap.size ≤ j := fun j h h0 => ⟨hv7.lt h0 h, hy7 j h⟩
     refine s_end ⟨hS, ?_⟩
     refine d1 4 (some 47) (.call (.mk (.value (.func 72)) #[(.tmp 45), (.tmp 46)] #[94, 3])) fun ty pos af => ?_
     refine s_callR (R := fun u w' => ∃ v', u = .agg [.int .i64 (setl (plusC (nfC (τ i)) (nfK (τ i)) (gt (nfK s) i)) (tidyK (plusK (nfK (τ i)) (gt (nfK s) i)))), v'].toArray ∧ Rd w' v' 1 (tidyK (plusK (nfK (τ i)) (gt (nfK s) i))).length (ints (tidyK (plusK (nfK (τ i)) (gt (nfK s) i)))) ∧ ∀ j, v'.ownBlock = some j → w72.heap.size ≤ j) [_, _] F E72 rfl (by decide) (plus42 (nfC (τ i)) (nfK (τ i)) _ (gt (nfK s) i) w72 (nfC_nn _) (nfC_le _) (by omega) (by omega) (by have := nfK_len _ hti.2; omega) (nfK_lo _) (nfK_hi _) hv7) ?_
     rintro _ w74 a ⟨v8, rfl, hv8, hy8⟩ B75 F
     have sB75 := B75.size
     have hB := bt hB B75
     have hB1 := bt hB1 B75
     have m4 := m4.old B75
     have m6 := m6.old B75
     have hv6 := hv6.below B75
     have hS := hS.below B75
     rw [show gt (nfK s) i = (((gt (nfK s) i).toNat : Nat) : Int) by omega] at hv8 F
     rw [plusK_is] at hv8 F
     rw [plusC_is] at F
     have hvq8 : ∀ j, v8.ownBlock = some j → 0 < (nfK (.succ (gt (nfK s) i).toNat (τ i))).length → j < w74.heap.size ∧ w72.heap.size ≤ j := fun j h h0 => ⟨hv8.lt h0 h, hy8 j h⟩
     refine s_end ⟨hS, ?_⟩
     refine d1 5 (some 48) (.call (.mk (.value (.func 71)) #[(.tmp 43), (.tmp 47)] #[94, 94])) fun ty pos af => ?_
     refine s_callR (R := fun u w' => ∃ v', u = .agg [.int .i64 (setl (max (nfC (instT (nfC s) (nfK s) τ i)) (nfC (.succ (gt (nfK s) i).toNat (τ i)))) (tidyK (bothK (nfK (instT (nfC s) (nfK s) τ i)) (nfK (.succ (gt (nfK s) i).toNat (τ i)))))), v'].toArray ∧ Rd w' v' 1 (tidyK (bothK (nfK (instT (nfC s) (nfK s) τ i)) (nfK (.succ (gt (nfK s) i).toNat (τ i))))).length (ints (tidyK (bothK (nfK (instT (nfC s) (nfK s) τ i)) (nfK (.succ (gt (nfK s) i).toNat (τ i)))))) ∧ ∀ j, v'.ownBlock = some j → w74.heap.size ≤ j) [_, _] F E71 rfl (by decide) (both43 (nfC (instT (nfC s) (nfK s) τ i)) (nfC (.succ (gt (nfK s) i).toNat (τ i))) (nfK (instT (nfC s) (nfK s) τ i)) (nfK (.succ (gt (nfK s) i).toNat (τ i))) _ _ w74 (nfC_nn _) (nfC_nn _) (by omega) (by have := nfK_succ_len (n := (gt (nfK s) i).toNat) hti.2.2.2; omega) (nfK_lo _) (nfK_lo _) hv6 hv8) ?_
     rintro _ w76 a ⟨v3, rfl, hv3, hy3⟩ B77 F
     have sB77 := B77.size
     have hB := bt hB B77
     have hB1 := bt hB1 B77
     have m4 := m4.old B77
     have m6 := m6.old B77
     have hS := hS.below B77
     rw [bothK_is] at hv3 F
     rw [← nfC_mx] at F
     rw [← hstep] at hv3 F
     have h1v3 := hv3.one
     have hvq3 : ∀ j, v3.ownBlock = some j → 0 < (nfK (instT (nfC s) (nfK s) τ (i + 1))).length → j < w76.heap.size ∧ w74.heap.size ≤ j := fun j h h0 => ⟨hv3.lt h0 h, hy3 j h⟩
     have hl3 : (nfK (instT (nfC s) (nfK s) τ (i + 1))).length ≤ 1001 := by
      have e1 : (nfK (instT (nfC s) (nfK s) τ (i + 1))).length ≤ max (nfK (instT (nfC s) (nfK s) τ i)).length (nfK (.succ (gt (nfK s) i).toNat (τ i))).length := by
       rw [hstep, ← bothK_is]
       exact Nat.le_trans (trim_len _ _) (by simp [bothK])
      have e2 := nfK_succ_len (n := (gt (nfK s) i).toNat) hti.2.2.2
      omega
     refine s_end ⟨hS, ?_⟩
     refine d1 6 none (.store 94 (.tmp 6) (.tmp 48)) fun ty pos af => ?_
     refine s_putW F rfl rfl (size_wide wide36) m6 rfl (one2 h1v3) fun w78 m6 o79 => ?_
     have so79 := o79.size
     have hB := hB.trans (o79.below (by omega))
     have hB1 := hB1.trans (o79.below (by omega))
     have m4 := m4.only o79 (by omega)
     have hv3 := rd_onlyZ hv3 o79 (fun j h hp => by have := hvq3 j h hp; omega)
     have hS := hS.only o79 (by omega)
     refine s_end ⟨hS, ?_⟩
     refine d_end (by kernel_rfl) (hK38 _ _ ?_)
     refine K13 _ _ ?_
     refine wp_region_lit ?_
     refine F.vl (x_addn (i + 1) (by omega) (by omega) rfl rfl) fun a F => F.mv rfl fun a F => ?_
     refine s_end (hK' _ _ (by omega) ⟨v3, m6, hv3, (fun j h => by have := hy3 j h; omega), hl3, hnb2, m4, hB, hB1, F.sub _ rfl⟩)
    ·
     refine d_op 2 (some 45) (.call (.mk (.value (.func 70)) #[(.tmp 44)] #[24])) (by kernel_rfl) fun ty pos af => ?_
     refine s_callR (R := fun u w' => ∃ v', u = .agg [.int .i64 (nfC (τ i)), v'].toArray ∧ Rd w' v' 1 (nfK (τ i)).length (ints (nfK (τ i))) ∧ ∀ j, v'.ownBlock = some j → w70.heap.size ≤ j) [_] F E70 rfl (by decide) (rNorm20 (τ i) y w70 (RS.below hB hti.1) hti.2.2.2) ?_
     rintro _ w80 a ⟨v7, rfl, hv7, hy7⟩ B81 F
     have sB81 := B81.size
     have hB := bt hB B81
     have hB1 := bt hB1 B81
     have m4 := m4.old B81
     have m6 := m6.old B81
     have hv6 := hv6.below B81
     have hS := hS.below B81
     have hvq7 : ∀ j, v7.ownBlock = some j → 0 < (nfK (τ i)).length → j < w80.heap.size ∧ w70.heap.size ≤ j := fun j h h0 => ⟨hv7.lt h0 h, hy7 j h⟩
     refine s_end ⟨hS, ?_⟩
     refine d_two 0 4 (by kernel_rfl) ?_ ?_
     ·
      refine d_op 0 (some 43) (.load 94 (.tmp 6)) (by kernel_rfl) fun ty pos af => ?_
      refine F.vl (x_ldW wide36 m6 rfl rfl) fun a F => ?_
      refine s_end ⟨hS, ?_⟩
      refine d1 4 (some 47) (.call (.mk (.value (.func 72)) #[(.tmp 45), (.tmp 46)] #[94, 3])) fun ty pos af => ?_
      refine s_callR (R := fun u w' => ∃ v', u = .agg [.int .i64 (setl (plusC (nfC (τ i)) (nfK (τ i)) (gt (nfK s) i)) (tidyK (plusK (nfK (τ i)) (gt (nfK s) i)))), v'].toArray ∧ Rd w' v' 1 (tidyK (plusK (nfK (τ i)) (gt (nfK s) i))).length (ints (tidyK (plusK (nfK (τ i)) (gt (nfK s) i)))) ∧ ∀ j, v'.ownBlock = some j → w80.heap.size ≤ j) [_, _] F E72 rfl (by decide) (plus42 (nfC (τ i)) (nfK (τ i)) _ (gt (nfK s) i) w80 (nfC_nn _) (nfC_le _) (by omega) (by omega) (by have := nfK_len _ hti.2; omega) (nfK_lo _) (nfK_hi _) hv7) ?_
      rintro _ w82 a ⟨v8, rfl, hv8, hy8⟩ B83 F
      have sB83 := B83.size
      have hB := bt hB B83
      have hB1 := bt hB1 B83
      have m4 := m4.old B83
      have m6 := m6.old B83
      have hv6 := hv6.below B83
      have hS := hS.below B83
      rw [show gt (nfK s) i = (((gt (nfK s) i).toNat : Nat) : Int) by omega] at hv8 F
      rw [plusK_is] at hv8 F
      rw [plusC_is] at F
      have hvq8 : ∀ j, v8.ownBlock = some j → 0 < (nfK (.succ (gt (nfK s) i).toNat (τ i))).length → j < w82.heap.size ∧ w80.heap.size ≤ j := fun j h h0 => ⟨hv8.lt h0 h, hy8 j h⟩
      refine s_end ⟨hS, ?_⟩
      refine d1 5 (some 48) (.call (.mk (.value (.func 71)) #[(.tmp 43), (.tmp 47)] #[94, 94])) fun ty pos af => ?_
      refine s_callR (R := fun u w' => ∃ v', u = .agg [.int .i64 (setl (max (nfC (instT (nfC s) (nfK s) τ i)) (nfC (.succ (gt (nfK s) i).toNat (τ i)))) (tidyK (bothK (nfK (instT (nfC s) (nfK s) τ i)) (nfK (.succ (gt (nfK s) i).toNat (τ i)))))), v'].toArray ∧ Rd w' v' 1 (tidyK (bothK (nfK (instT (nfC s) (nfK s) τ i)) (nfK (.succ (gt (nfK s) i).toNat (τ i))))).length (ints (tidyK (bothK (nfK (instT (nfC s) (nfK s) τ i)) (nfK (.succ (gt (nfK s) i).toNat (τ i)))))) ∧ ∀ j, v'.ownBlock = some j → w82.heap.size ≤ j) [_, _] F E71 rfl (by decide) (both43 (nfC (instT (nfC s) (nfK s) τ i)) (nfC (.succ (gt (nfK s) i).toNat (τ i))) (nfK (instT (nfC s) (nfK s) τ i)) (nfK (.succ (gt (nfK s) i).toNat (τ i))) _ _ w82 (nfC_nn _) (nfC_nn _) (by omega) (by have := nfK_succ_len (n := (gt (nfK s) i).toNat) hti.2.2.2; omega) (nfK_lo _) (nfK_lo _) hv6 hv8) ?_
      rintro _ w84 a ⟨v3, rfl, hv3, hy3⟩ B85 F
      have sB85 := B85.size
      have hB := bt hB B85
      have hB1 := bt hB1 B85
      have m4 := m4.old B85
      have m6 := m6.old B85
      have hS := hS.below B85
      rw [bothK_is] at hv3 F
      rw [← nfC_mx] at F
      rw [← hstep] at hv3 F
      have h1v3 := hv3.one
      have hvq3 : ∀ j, v3.ownBlock = some j → 0 < (nfK (instT (nfC s) (nfK s) τ (i + 1))).length → j < w84.heap.size ∧ w82.heap.size ≤ j := fun j h h0 => ⟨hv3.lt h0 h, hy3 j h⟩
      have hl3 : (nfK (instT (nfC s) (nfK s) τ (i + 1))).length ≤ 1001 := by
       have e1 : (nfK (instT (nfC s) (nfK s) τ (i + 1))).length ≤ max (nfK (instT (nfC s) (nfK s) τ i)).length (nfK (.succ (gt (nfK s) i).toNat (τ i))).length := by
        rw [hstep, ← bothK_is]
        exact Nat.le_trans (trim_len _ _) (by simp [bothK])
       have e2 := nfK_succ_len (n := (gt (nfK s) i).toNat) hti.2.2.2
       omega
      refine s_end ⟨hS, ?_⟩
      refine d1 6 none (.store 94 (.tmp 6) (.tmp 48)) fun ty pos af => ?_
      refine s_putW F rfl rfl (size_wide wide36) m6 rfl (one2 h1v3) fun w86 m6 o87 => ?_
      have so87 := o87.size
      have hB := hB.trans (o87.below (by omega))
      have hB1 := hB1.trans (o87.below (by omega))
      have m4 := m4.only o87 (by omega)
      have hv3 := rd_onlyZ hv3 o87 (fun j h hp => by have := hvq3 j h hp; omega)
      have hS := hS.only o87 (by omega)
      refine s_end ⟨hS, ?_⟩
      refine d_end (by kernel_rfl) (hK38 _ _ ?_)
      refine K13 _ _ ?_
      refine wp_region_lit ?_
      refine F.vl (x_addn (i + 1) (by omega) (by omega) rfl rfl) fun a F => F.mv rfl fun a F => ?_
      refine s_end (hK' _ _ (by omega) ⟨v3, m6, hv3, (fun j h => by have := hy3 j h; omega), hl3, hnb2, m4, hB, hB1, F.sub _ rfl⟩)
     ·
      refine d_op 4 (some 47) (.call (.mk (.value (.func 72)) #[(.tmp 45), (.tmp 46)] #[94, 3])) (by kernel_rfl) fun ty pos af => ?_
      refine s_callR (R := fun u w' => ∃ v', u = .agg [.int .i64 (setl (plusC (nfC (τ i)) (nfK (τ i)) (gt (nfK s) i)) (tidyK (plusK (nfK (τ i)) (gt (nfK s) i)))), v'].toArray ∧ Rd w' v' 1 (tidyK (plusK (nfK (τ i)) (gt (nfK s) i))).length (ints (tidyK (plusK (nfK (τ i)) (gt (nfK s) i)))) ∧ ∀ j, v'.ownBlock = some j → w80.heap.size ≤ j) [_, _] F E72 rfl (by decide) (plus42 (nfC (τ i)) (nfK (τ i)) _ (gt (nfK s) i) w80 (nfC_nn _) (nfC_le _) (by omega) (by omega) (by have := nfK_len _ hti.2; omega) (nfK_lo _) (nfK_hi _) hv7) ?_
      rintro _ w88 a ⟨v8, rfl, hv8, hy8⟩ B89 F
      have sB89 := B89.size
      have hB := bt hB B89
      have hB1 := bt hB1 B89
      have m4 := m4.old B89
      have m6 := m6.old B89
      have hv6 := hv6.below B89
      have hS := hS.below B89
      rw [show gt (nfK s) i = (((gt (nfK s) i).toNat : Nat) : Int) by omega] at hv8 F
      rw [plusK_is] at hv8 F
      rw [plusC_is] at F
      have hvq8 : ∀ j, v8.ownBlock = some j → 0 < (nfK (.succ (gt (nfK s) i).toNat (τ i))).length → j < w88.heap.size ∧ w80.heap.size ≤ j := fun j h h0 => ⟨hv8.lt h0 h, hy8 j h⟩
      refine s_end ⟨hS, ?_⟩
      refine d1 0 (some 43) (.load 94 (.tmp 6)) fun ty pos af => ?_
      refine F.vl (x_ldW wide36 m6 rfl rfl) fun a F => ?_
      refine s_end ⟨hS, ?_⟩
      refine d1 5 (some 48) (.call (.mk (.value (.func 71)) #[(.tmp 43), (.tmp 47)] #[94, 94])) fun ty pos af => ?_
      refine s_callR (R := fun u w' => ∃ v', u = .agg [.int .i64 (setl (max (nfC (instT (nfC s) (nfK s) τ i)) (nfC (.succ (gt (nfK s) i).toNat (τ i)))) (tidyK (bothK (nfK (instT (nfC s) (nfK s) τ i)) (nfK (.succ (gt (nfK s) i).toNat (τ i)))))), v'].toArray ∧ Rd w' v' 1 (tidyK (bothK (nfK (instT (nfC s) (nfK s) τ i)) (nfK (.succ (gt (nfK s) i).toNat (τ i))))).length (ints (tidyK (bothK (nfK (instT (nfC s) (nfK s) τ i)) (nfK (.succ (gt (nfK s) i).toNat (τ i)))))) ∧ ∀ j, v'.ownBlock = some j → w88.heap.size ≤ j) [_, _] F E71 rfl (by decide) (both43 (nfC (instT (nfC s) (nfK s) τ i)) (nfC (.succ (gt (nfK s) i).toNat (τ i))) (nfK (instT (nfC s) (nfK s) τ i)) (nfK (.succ (gt (nfK s) i).toNat (τ i))) _ _ w88 (nfC_nn _) (nfC_nn _) (by omega) (by have := nfK_succ_len (n := (gt (nfK s) i).toNat) hti.2.2.2; omega) (nfK_lo _) (nfK_lo _) hv6 hv8) ?_
      rintro _ w90 a ⟨v3, rfl, hv3, hy3⟩ B91 F
      have sB91 := B91.size
      have hB := bt hB B91
      have hB1 := bt hB1 B91
      have m4 := m4.old B91
      have m6 := m6.old B91
      have hS := hS.below B91
      rw [bothK_is] at hv3 F
      rw [← nfC_mx] at F
      rw [← hstep] at hv3 F
      have h1v3 := hv3.one
      have hvq3 : ∀ j, v3.ownBlock = some j → 0 < (nfK (instT (nfC s) (nfK s) τ (i + 1))).length → j < w90.heap.size ∧ w88.heap.size ≤ j := fun j h h0 => ⟨hv3.lt h0 h, hy3 j h⟩
      have hl3 : (nfK (instT (nfC s) (nfK s) τ (i + 1))).length ≤ 1001 := by
       have e1 : (nfK (instT (nfC s) (nfK s) τ (i + 1))).length ≤ max (nfK (instT (nfC s) (nfK s) τ i)).length (nfK (.succ (gt (nfK s) i).toNat (τ i))).length := by
        rw [hstep, ← bothK_is]
        exact Nat.le_trans (trim_len _ _) (by simp [bothK])
       have e2 := nfK_succ_len (n := (gt (nfK s) i).toNat) hti.2.2.2
       omega
      refine s_end ⟨hS, ?_⟩
      refine d1 6 none (.store 94 (.tmp 6) (.tmp 48)) fun ty pos af => ?_
      refine s_putW F rfl rfl (size_wide wide36) m6 rfl (one2 h1v3) fun w92 m6 o93 => ?_
      have so93 := o93.size
      have hB := hB.trans (o93.below (by omega))
      have hB1 := hB1.trans (o93.below (by omega))
      have m4 := m4.only o93 (by omega)
      have hv3 := rd_onlyZ hv3 o93 (fun j h hp => by have := hvq3 j h hp; omega)
      have hS := hS.only o93 (by omega)
      refine s_end ⟨hS, ?_⟩
      refine d_end (by kernel_rfl) (hK38 _ _ ?_)
      refine K13 _ _ ?_
      refine wp_region_lit ?_
      refine F.vl (x_addn (i + 1) (by omega) (by omega) rfl rfl) fun a F => F.mv rfl fun a F => ?_
      refine s_end (hK' _ _ (by omega) ⟨v3, m6, hv3, (fun j h => by have := hy3 j h; omega), hl3, hnb2, m4, hB, hB1, F.sub _ rfl⟩)
  ·
   obtain rfl : i = (nfK s).length := by omega
   refine wp_exit (K9 _ _ ?_)
   refine wp_rs fun _ K39 => F.vl (x_ldW wide36 m6 rfl rfl) fun a F => ?_
   refine s_callR (R := fun u w' => ∃ z, u = lv z ∧ RSn w' (fun k => w.heap.size ≤ k) (levF (nfC (instT (nfC s) (nfK s) τ (nfK s).length)) (nfK (instT (nfC s) (nfK s) τ (nfK s).length))) z) [_] F E73 rfl (by decide) (rLevel22 _ _ v6 w (nfC_nn _) hLl (nfK_lo _) (nfK_tm _) hv6) ?_
   rintro _ w94 a ⟨z, rfl, hz⟩ B95 F
   have sB95 := B95.size
   have hB := bt hB B95
   have m4 := m4.old B95
   have h1z := hz.rs.one1
   refine s_putW F rfl rfl (size_wide wide24) m4 rfl (one_lc h1z) fun w96 m4 o97 => ?_
   have so97 := o97.size
   have hB := hB.trans (o97.below (by omega))
   have hz := hz.only o97 (fun k (hk : w.heap.size ≤ k) => by omega)
   refine s_end (K39 _ _ ?_)
   refine wp_ret (res_cell F rfl rfl m4 wide24 ⟨_, rfl, ⟨z, rfl, fun h => absurd hn h, fun s' hs' _ => ?_⟩, hB⟩)
   obtain rfl := RS.inj hs hs'
   exact ⟨fun ⟨j, hj⟩ => absurd hj (hnb j hj.1), fun _ => hz.mono (fun k hk => by omega)⟩
end Go.Proofs.Ytbhhbfdoadecgaa

namespace Go.Proofs.Ytbhhbfdoadecgaa
set_option maxRecDepth 100000
set_option maxHeartbeats 1600000
open Go.RowKit Go.Shelf
set_option linter.unusedVariables false
set_option linter.unusedSimpArgs false
/-- s with τ's levels in the place of its variables, reduced. -/
def iS (s : SL) (τ : Nat → SL) : SL := levF (nfC (instT (nfC s) (nfK s) τ (nfK s).length)) (nfK (instT (nfC s) (nfK s) τ (nfK s).length))
noncomputable def goodO (t : SL) : Option SL := @ite _ t.good (Classical.propDecidable _) (some t) none
noncomputable def instO (lvs : List Lv) (τ : Nat → SL) : Option SL → Option SL
 | some s => @ite _ (∃ i, bad lvs (nfK s) i) (Classical.propDecidable _) none (goodO (iS s τ))
 | none => none
/-- What is put in for variables. -/
structure Tau (W : World) (v : Value) (xs : List C3) (lvs : List Lv) (τ : Nat → SL) : Prop where
 hV : Rd W v 3 xs.length (xs.flatMap lc)
 hls : xs.length = lvs.length
 hl : ∀ (i : Nat) x l, xs[i]? = some x → lvs[i]? = some l → RL W x l
 ht : ∀ (i : Nat) x l, xs[i]? = some x → lvs[i]? = some l → sndL l → RS W (τ i) x ∧ (τ i).good
 ht2 : ∀ i, xs.length ≤ i → τ i = .var i
theorem Tau.below {W W' : World} {v : Value} {xs : List C3} {lvs : List Lv} {τ : Nat → SL} (h : Tau W v xs lvs τ) (hB : Below W.heap.size W W') : Tau W' v xs lvs τ :=
 ⟨h.hV.below hB, h.hls, fun i x l e1 e2 => (h.hl i x l e1 e2).old hB, fun i x l e1 e2 e3 => ⟨RS.below hB (h.ht i x l e1 e2 e3).1, (h.ht i x l e1 e2 e3).2⟩, h.ht2⟩
theorem Tau.bel {w0 W : World} {v : Value} {xs : List C3} {lvs : List Lv} {τ : Nat → SL} (h : Tau w0 v xs lvs τ) (hB : Below w0.heap.size w0 W) : Tau W v xs lvs τ := h.below hB
theorem zeroL (W : World) (A : Nat → Prop) : ∃ l', RLn W A (0, 0, .slice none 0 0) l' ∧ slO l' = none := by
 refine ⟨.mk 0 0 [], .mk (xs := []) (Rn.nil W A 3) rfl (fun i x l h => by simp at h), ?_⟩
 have h : RL W (0, 0, .slice none 0 0) (.mk 0 0 []) := .mk (xs := []) (Rd.nil _ _) rfl (fun i x l h => by simp at h)
 rw [slO_none h]
 intro hs
 obtain ⟨s, h1, _⟩ := sound_sl h hs
 cases s with
 | num n => exact absurd h1.1 (by decide)
 | var n => exact absurd h1.1 (by decide)
 | succ n a => exact absurd h1.1 (by decide)
 | mx a b => exact absurd h1.1 (by decide)
theorem slO_good {W : World} {t : SL} {z : C3} {l : Lv} (hs : RS W t z) (hL : RL W z l) : slO l = goodO t := by
 unfold goodO
 by_cases h : t.good
 ·
  rw [if_pos h]; exact slO_of hL hs h
 ·
  rw [if_neg h, slO_none hL]
  intro h2
  obtain ⟨s, h3, h4⟩ := sound_sl hL h2
  exact h (RS.inj h3 hs ▸ h4)
theorem Inst90n (x : C3) (l : Lv) (v : Value) (xs : List C3) (lvs : List Lv) (τ : Nat → SL) (w0 : World) (hL : RL w0 x l) (hT : Tau w0 v xs lvs τ) : Calls Try.prog 64 #[lv x, v] w0 fun e w' => ∃ u, e = .returned u ∧ (∃ z l', u = lv z ∧ RLx w' (fun k => w0.heap.size ≤ k) z l' ∧ slO l' = instO lvs τ (slO l)) ∧ Below w0.heap.size w0 w' := by
 refine (Inst27 x l xs lvs v τ w0 hL hT.hV hT.hls hT.hl hT.ht hT.ht2).mono ?_
 rintro e w' ⟨u, h1, ⟨z, h2, h3, h4⟩, h5⟩
 refine ⟨u, h1, ?_, h5⟩
 by_cases hs : sndL l
 ·
  obtain ⟨s, hsx, hg⟩ := sound_sl hL hs
  rw [slO_of hL hsx hg]
  obtain ⟨h6, h7⟩ := h4 s hsx hg
  by_cases hb : ∃ i, bad lvs (nfK s) i
  ·
   obtain ⟨l', h8, h9⟩ := zeroL w' (fun k => w0.heap.size ≤ k)
   refine ⟨z, l', h2, by rw [h6 hb]; exact h8, ?_⟩
   rw [h9]; exact (if_pos hb).symm
  ·
   have h8 := h7 hb
   obtain ⟨l', h9⟩ := h8.rln
   refine ⟨z, l', h2, h9, ?_⟩
   rw [slO_good h8.rs h9.rl]; exact (if_neg hb).symm
 ·
  obtain ⟨l', h8, h9⟩ := zeroL w' (fun k => w0.heap.size ≤ k)
  refine ⟨z, l', h2, by rw [h3 hs]; exact h8, ?_⟩
  rw [h9, (slO_none hL).2 hs]; rfl
theorem instAll91 (A : Nat → Prop) (ls : List Lv) (v1 v : Value) (xs : List C3) (lvs : List Lv) (τ : Nat → SL) (w0 : World) (hA : ∀ k, A k → k < w0.heap.size) (hV : RVn w0 A v1 ls) (hlen : ls.length ≤ 100000000) (hT : Tau w0 v xs lvs τ) : Calls Try.prog 65 #[v1, v] w0 fun e w' => ∃ u, e = .returned u ∧ (∃ ls', RVn w' (fun k => w0.heap.size ≤ k) u ls' ∧ ls'.map slO = ls.map (fun l => instO lvs τ (slO l))) ∧ Below w0.heap.size w0 w' := by
 obtain ⟨av, cv, hve, _⟩ := hV.form
 subst hve
 have hB := Below.refl w0.heap.size w0
 have sB := hB.size
 refine calls_fs 22 [(0, .slice av ls.length cv), (1, v)] Try.func65 rfl rfl rfl rfl rfl fun a F => ?_
 refine wp_rs fun _ K1 => F.sg rfl fun a F => ?_
 refine s_end (K1 _ _ ?_)
 refine wp_rs fun _ K2 => F.sg rfl fun a F => ?_
 refine s_end (K2 _ _ ?_)
 refine wp_seq_k fun _ K3 => ?_
 refine wp_rs fun _ K4 => F.mv rfl fun a F => F.vl (x_len Try.underlying22 rfl) fun a F => F.mv rfl fun a F => ?_
 refine s_end (K4 _ _ ?_)
 refine wp_block ?_
 refine wp_up ls.length (fun i a w => ∃ v' zs ls', w.ownsRow w0.heap.size 24 3 v' zs.length (zs.flatMap lc) ∧ QL w (fun k => (w0.heap.size ≤ k ∧ v'.ownBlock ≠ some k) ∧ k < w.heap.size) zs ls' ∧ ls'.length = i ∧ ls'.map slO = (ls.take i).map (fun l => instO lvs τ (slO l)) ∧ Below w0.heap.size w0 w ∧ Fs 22 a [(1, v), (5, v'), (8, .slice av ls.length cv), (9, .int .i64 (ls.length : Int)), (10, .int .i64 (i : Int))]) ⟨_, [], [], World.ownsRow_nil _ _ _ _, QL.nil, rfl, by simp, hB, F.sub _ rfl⟩ ?_
 repeat clear F
 clear hB
 rintro i a w hi ⟨vv, zs, ls2, hO, hP, hl2, hcp, hB, F⟩ K' hK'
 have sB := hB.size
 obtain ⟨top, htop⟩ : ∃ h, h = w.heap.size := ⟨_, rfl⟩
 rw [← htop] at hP
 have hPl := hP.1
 have hOt : ∀ j, vv.ownBlock = some j → j < top := fun j h => by rw [htop]; exact (hO.lt j h).2
 have h1vv := (Rd.own hO).one
 refine wp_rs fun _ K5 => F.vl (x_lss (b := decide (i < ls.length)) (decide_eq_decide.2 (by omega)) rfl rfl) fun a F => ?_
 refine s_end (K5 _ _ ?_)
 refine wp_seq_k fun _ K6 => ?_
 refine wp_iff F rfl (fun hc11 => ?_) (fun hc11 => ?_)
 ·
  obtain ⟨b9, off9, c9, y, p, hve, hp, hry, hAb, hbl, hrow⟩ := hV.row (i := i) (by omega)
  cases hve
  have h1y := hry.rl.one1
  have htk := take_snoc hp
  refine wp_skip (K6 _ _ ?_)
  refine wp_seq_k fun _ K7 => ?_
  refine wp_block ?_
  refine wp_rs fun _ K8 => F.vl (x_ixa rfl rfl (m_ixsK i Try.underlying22 el22.size rfl (by omega))) fun a F => F.vl (x_ldA wide24 (hrow _ (hB.block _ hbl)) rfl rfl) fun a F => ?_
  refine s_alloc F (by decide) zero24 fun w2 b7 a eb7 m7 B3 zb7 F => ?_
  have sB3 := B3.size
  have hB := bt hB B3
  have hP := hP.below B3
  have hO := own_below hO B3
  refine s_putW F rfl rfl (size_wide wide24) m7 rfl (one_lc h1y) fun w6 m7 o7 => ?_
  have so7 := o7.size
  have hB := hB.trans (o7.below (by omega))
  have hP := hP.only o7 (fun k (hk : (w0.heap.size ≤ k ∧ vv.ownBlock ≠ some k) ∧ k < top) => by omega)
  have hO := own_only hO o7 (fun e => by have := hOt _ e; omega)
  refine s_end (K8 _ _ ?_)
  refine wp_region_lit ?_
  refine F.mv rfl fun a F => F.vl (x_ldW wide24 m7 rfl rfl) fun a F => F.mv rfl fun a F => ?_
  refine s_callR (R := fun u w' => ∃ z l', u = lv z ∧ RLx w' (fun k => w6.heap.size ≤ k) z l' ∧ slO l' = instO lvs τ (slO p)) [_, _] F E64 rfl (by decide) (Inst90n y p v xs lvs τ w6 ((hry.keep hB.size (fun k hk _ => hB.block k (hA k hk))).rl) (hT.bel hB)) ?_
  rintro _ w8 a ⟨z, l2, rfl, hz0, hcz⟩ B9 F
  have sB9 := B9.size
  have hB := bt hB B9
  have hP := hP.below B9
  have hO := own_below hO B9
  have hz : RLx w8 (fun k => w6.heap.size ≤ k ∧ k < w8.heap.size) z l2 := hz0.valid
  clear hz0
  have h1z := hz.rl.one1
  refine s_litG [lv z] el22 F (by decide) rfl (by simp [Value.cells, lc]) rfl (by decide) (by decide) fun w10 bl a ebl ml B11 zbl F => ?_
  have sB11 := B11.size
  have hB := bt hB B11
  have hP := hP.below B11
  have hO := own_below hO B11
  have hz := hz.below B11
  have ml : Blk w10 bl 24 (lc z) := by simpa [Value.cells] using ml
  obtain ⟨o2, hat, hob, hos, hno⟩ : ∃ o, (∀ j, vv.ownBlock = some j → j = o) ∧ w0.heap.size ≤ o ∧ o < w6.heap.size ∧ (∀ k, k < top → vv.ownBlock ≠ some k → k ≠ o) := by
   cases hv9 : vv.ownBlock with
   | none => exact ⟨b7, (fun j h => by cases h), by omega, by omega, fun k hk _ => by omega⟩
   | some j => exact ⟨j, (fun i h => by cases h; rfl), (hO.lt j hv9).1, by have := hOt j hv9; omega, fun k _ hk e => hk (by rw [e])⟩
  have hP : QL w10 (fun k => w0.heap.size ≤ k ∧ k ≠ o2 ∧ k < top) zs ls2 := hP.mono (fun k hk => ⟨hk.1.1, hno k hk.2 hk.1.2, hk.2⟩)
  refine s_appL (o := o2) el22 F (by decide) rfl rfl hO ml rfl (one_lc h1z) hat (by omega) (by omega) (by decide) (by omega) fun v3 w12 a o3 hOn hOatn how hsrc k13 hkeep F => ?_
  have sk13 := k13.size
  have hB := k13.under hB (by omega)
  have hP := hP.k2 k13 (fun k (hk : w0.heap.size ≤ k ∧ k ≠ o2 ∧ k < top) => by omega)
  have hz := hz.k2 k13 (fun k (hk : w6.heap.size ≤ k ∧ k < w8.heap.size) => by omega)
  have hO := hOn
  have hO_at := hOatn
  refine F.sg rfl fun a F => ?_
  refine s_end (K7 _ _ ?_)
  refine wp_region_lit ?_
  refine F.vl (x_addn (i + 1) (by omega) (by omega) rfl rfl) fun a F => F.mv rfl fun a F => ?_
  refine s_end (hK' _ _ (by omega) ⟨v3, zs ++ [z], ls2 ++ [l2], by rw [fm3_app]; simpa using hO, ((hP.mono (fun k (hk : w0.heap.size ≤ k ∧ k ≠ o2 ∧ k < top) => ⟨⟨hk.1, fun e => by have := hO_at k e; omega⟩, by omega⟩)).snoc (hz.mono (fun k (hk : w6.heap.size ≤ k ∧ k < w8.heap.size) => ⟨⟨by omega, fun e => by have := hO_at k e; omega⟩, by omega⟩))), by simp [hl2], by rw [List.map_append, hcp, htk, List.map_append]; simp [hcz], hB, F.sub _ rfl⟩)
 ·
  obtain rfl : i = ls.length := by omega
  rw [List.take_length] at hcp
  refine wp_exit (K3 _ _ ?_)
  refine wp_rs fun _ K9 => F.mv rfl fun a F => F.sg rfl fun a F => ?_
  refine s_end (K9 _ _ ?_)
  refine wp_ret (res_slot F rfl rfl ⟨_, rfl, ⟨ls2, (hP.mono (B := fun k => w0.heap.size ≤ k) (fun k hk => hk.1.1)).rvn (Rd.own hO) (fun j h => (hO.lt j h).1), hcp⟩, hB⟩)
end Go.Proofs.Ytbhhbfdoadecgaa

namespace Go.Proofs.Ytbhhbfdoadecgaa
set_option maxRecDepth 100000
set_option maxHeartbeats 1600000
open Go.RowKit Go.Shelf
set_option linter.unusedVariables false
set_option linter.unusedSimpArgs false
noncomputable def Gi (lvs : List Lv) (τ : Nat → SL) (c : CT) (d : Int) (ps : List PT) : PT := match c with
 | .sort l _ => .sort (instO lvs τ (slO l))
 | .cst s ls _ => .cst s (ls.map fun l => instO lvs τ (slO l))
 | c => nodeP c ps
noncomputable def PT.instL (lvs : List Lv) (τ : Nat → SL) : PT → PT
 | .var n => .var n
 | .sort o => .sort (instO lvs τ o)
 | .cst s os => .cst s (os.map (instO lvs τ))
 | .two k p q => .two k (p.instL lvs τ) (q.instL lvs τ)
 | .lt p q r => .lt (p.instL lvs τ) (q.instL lvs τ) (r.instL lvs τ)
 | .odd k => .odd k
theorem fold_inst (lvs : List Lv) (τ : Nat → SL) : ∀ (c : CT) (d : Int), c.fold (Gi lvs τ) d = c.ess.instL lvs τ
 | .two k a b m, d => by simp [CT.fold, Gi, nodeP, CT.ess, PT.instL, fold_inst lvs τ a, fold_inst lvs τ b]
 | .lt a b c m, d => by simp [CT.fold, Gi, nodeP, CT.ess, PT.instL, fold_inst lvs τ a, fold_inst lvs τ b, fold_inst lvs τ c]
 | .var .., d => rfl
 | .sort .., d => rfl
 | .cst s ls m, d => by simp [CT.fold, Gi, CT.ess, PT.instL]
 | .odd .., d => rfl
/-- No constant has very many levels. -/
def CT.lvB : CT → Prop
 | .cst _ ls _ => ls.length ≤ 100000000
 | .two _ a b _ => a.lvB ∧ b.lvB
 | .lt a b c _ => a.lvB ∧ b.lvB ∧ c.lvB
 | _ => True
theorem CT.lvB_kid (c k : CT) (i : Nat) (h : c.lvB) (hk : c.kids[i]? = some k) : k.lvB := by
 cases c with
 | two _ a b _ =>
  rcases i with _ | _ | i
  ·
   simp [CT.kids] at hk; subst hk; exact h.1
  ·
   simp [CT.kids] at hk; subst hk; exact h.2
  ·
   simp [CT.kids] at hk
 | lt a b c _ =>
  rcases i with _ | _ | _ | i
  ·
   simp [CT.kids] at hk; subst hk; exact h.1
  ·
   simp [CT.kids] at hk; subst hk; exact h.2.1
  ·
   simp [CT.kids] at hk; subst hk; exact h.2.2
  ·
   simp [CT.kids] at hk
 | _ => simp [CT.kids] at hk
theorem okV_lvB {vars : Int} : ∀ (c : CT), c.okV vars → c.lvB
 | .var .., h => trivial
 | .sort .., h => trivial
 | .cst s ls m, h => by have := h.1; show ls.length ≤ 100000000; omega
 | .two k a b m, h => ⟨okV_lvB a h.1, okV_lvB b h.2⟩
 | .lt a b c m, h => ⟨okV_lvB a h.1, okV_lvB b h.2.1, okV_lvB c h.2.2⟩
 | .odd .., h => trivial
theorem one_sort (p q : Int) (a : Option Addr) (m c : Nat) : ∀ u ∈ tc ⟨2, 0, emptyB, (p, q, .slice a m c), nilS, nilS⟩, u.oneCell' = true := by
 intro u hu
 simp only [tc, List.mem_cons, List.not_mem_nil, or_false] at hu
 rcases hu with rfl | rfl | rfl | rfl | rfl | rfl | rfl | rfl <;> rfl
theorem one_cst (s : ByteArray) (a : Option Addr) (m c : Nat) : ∀ u ∈ tc ⟨7, 0, s, (0, 0, nilS), .slice a m c, nilS⟩, u.oneCell' = true := by
 intro u hu
 simp only [tc, List.mem_cons, List.not_mem_nil, or_false] at hu
 rcases hu with rfl | rfl | rfl | rfl | rfl | rfl | rfl | rfl <;> rfl
theorem clo89 (w00 : World) (wl : World) (br : Nat) (hbr : br < wl.heap.size) (A : Nat → Prop) (hA : ∀ k, A k → k ≠ br ∧ k < wl.heap.size) (v : Value) (xs : List C3) (lvs : List Lv) (τ : Nat → SL) (hT : Tau w00 v xs lvs τ) (h00 : Below w00.heap.size w00 wl) (hb00 : w00.heap.size ≤ br) (bl3 bl4 : Nat) (m3 : Blk wl bl3 22 [v]) (m4 : Blk wl bl4 66 [.pointer (some ⟨br, 0, none⟩)]) (hne : bl3 ≠ br ∧ bl4 ≠ br) (D : Int) (W : World) (c : CT) (x : C8) (d : Int) (kv : Value) (ps : List PT) (s : Nat) (hK : Ktw br br wl W) (hR : Room W br) (hx : RC wl A c x) (hd0 : 0 ≤ d) (hdD : d ≤ D) (hs0 : wl.heap.size ≤ s) (hs1 : s ≤ W.heap.size) (hkv : RKE W (AS A s) kv ps) (hlen : ps.length = c.kids.length) (hlb : c.lvB) :
    Calls Try.prog 63 ([tv x, .int .i64 d, kv] ++ [Value.pointer (some ⟨bl3, 0, none⟩), Value.pointer (some ⟨bl4, 0, none⟩)]).toArray W fun e w' => ∃ v, e = .returned v ∧ ((∃ y, v = tv y ∧ RE w' (AS A s) (Gi lvs τ c d ps) y ∧ Tt c y) ∧ Room w' br) ∧ Ktw br br W w' := by
  have hQ := Ktw.refl br br W
  have sQ := hQ.size
  have sK := hK.size
  have hA2 : ∀ k, A k → k ≠ br ∧ k ≠ br := fun k hk => ⟨(hA k hk).1, (hA k hk).1⟩
  have hAS : ∀ k, AS A s k → k ≠ br := fun k hk => by rcases hk with hk | hk; (· exact (hA k hk).1); omega
  have hkv0 := hkv.valid
  have m3 := m3.k2 hK (by omega)
  have m4 := m4.k2 hK (by omega)
  have h3l := m3.lt
  have h4l := m4.lt
  have h00 := hK.under h00 ⟨hb00, hb00⟩
  have s00 := h00.size
  obtain ⟨a7, c7, h7, _⟩ := hT.hV.form
  subst h7
  have hone := hx.one
  have hx0 := hx
  have hA3 : ∀ k, A k → k < W.heap.size := fun k hk => by have := (hA k hk).2; omega
  refine calls_fs 31 [(0, tv x), (1, .int .i64 d), (2, kv), (3, Value.pointer (some ⟨bl3, 0, none⟩)), (4, Value.pointer (some ⟨bl4, 0, none⟩))] Try.func63 rfl rfl rfl rfl rfl fun a F => ?_
  refine wp_rs fun _ K1 => ?_
  refine s_box (tc x) F (by decide) rfl rfl fun w2 b5 a eb5 m5 B3 zb5 F => ?_
  have sB3 := B3.size
  have hK := hK.below B3
  have hQ := hQ.below B3
  have h00 := bt h00 B3
  have m3 := m3.old B3
  have m4 := m4.old B3
  have hR := hR.below B3
  refine s_alloc F (by decide) zero27 fun w4 b8 a eb8 m8 B5 zb8 F => ?_
  have sB5 := B5.size
  have hK := hK.below B5
  have hQ := hQ.below B5
  have h00 := bt h00 B5
  have m3 := m3.old B5
  have m4 := m4.old B5
  have m5 := m5.old B5
  have hR := hR.below B5
  refine s_end (K1 _ _ ?_)
  refine wp_seq_k fun _ K2 => ?_
  refine wp_rs fun _ K3 => F.vl (x_fa0 fa27_0 rfl) fun a F => F.ld m5 flat3 rfl rfl fun a F => ?_
  refine s_end (K3 _ _ ?_)
  refine wp_block ?_
  rcases (show x.k = 2 ∨ x.k = 7 ∨ (x.k ≠ 2 ∧ x.k ≠ 7) by omega) with hk9 | hk9 | hk9
  · obtain ⟨l, m, rfl⟩ := hx.sort_of hk9
    refine wp_rs fun _ K5 => F.vl (eqlT (by omega) rfl rfl) fun a F => F.sg rfl fun a F => ?_
    refine s_end (K5 _ _ ?_)
    refine wp_if F rfl ?_
    refine wp_rs fun _ K6 => F.vl (x_fa0 fa27_3 rfl) fun a F => F.vl (x_load rfl (m_loadP (vs := [_, _, _]) wide24 m5 rfl)) fun a F => F.ld m3 flat22 rfl rfl fun a F => ?_
    have hxl : RLn wl A x.l l := hx.2.1
    refine s_callR (R := fun u w' => ∃ z l', u = lv z ∧ RLx w' (fun k => w4.heap.size ≤ k) z l' ∧ slO l' = instO lvs τ (slO l)) [_, _] F E64 rfl (by decide) (Inst90n x.l l _ xs lvs τ w4 ((hxl.keep hK.size (fun k hk hb => hK.block k hb (hA2 k hk))).rl) (hT.bel h00)) ?_
    rintro _ w6 a ⟨⟨zk, zn, zv⟩, l2, rfl, hz, hcz⟩ B7 F
    have sB7 := B7.size
    have hQ := hQ.below B7
    have m8 := m8.old B7
    have hR := hR.below B7
    obtain ⟨zm, zcs, hzs⟩ := RLn.slice hz
    obtain ⟨az, cz, hze, _⟩ := hzs.form
    simp only at hze
    subst hze
    refine F.vl (x_build (vs := [(0, _), (3, _)]) rfl (b27_03 _ _ _ _ _ _ _)) fun a F => ?_
    refine s_putW F rfl rfl (size_wide wide27) m8 rfl (one_sort _ _ _ _ _) fun w10 m8 o11 => ?_
    have so11 := o11.size
    have hQ := hQ.only o11 (by omega)
    have hz := hz.only o11 (fun k (hk : w4.heap.size ≤ k) => by omega)
    have hR := hR.only o11 (by omega)
    refine s_end (K6 _ _ ?_)
    have hre : RE w10 (AS A s) (Gi lvs τ (.sort l m) d ps) ⟨2, 0, emptyB, (zk, zn, .slice az zm cz), nilS, nilS⟩ := RE_sort (RLn.mono (fun k hk => .inr (by omega)) hz) hcz (RKE.nil _ _)
    refine wp_ret (inb_ret (then_ret (res_cell F rfl rfl m8 wide27 ⟨_, rfl, ⟨⟨_, rfl, hre, fun h => by simp [CT.kids] at h⟩, hR⟩, hQ⟩)))
  · obtain ⟨sn, ls, m, rfl⟩ := hx.cst_of hk9
    have hsn : x.s = sn := hx.2.1
    have hxls : RVn wl A x.ls ls := hx.2.2.1
    obtain ⟨xk, xn, xs9, xl, xls, xts⟩ := x
    obtain ⟨a8, c8, h8, _⟩ := hxls.form
    simp only at h8 hsn
    subst h8 hsn
    refine wp_rs fun _ K7 => F.vl (eqlF (by omega) rfl rfl) fun a F => F.sg rfl fun a F => ?_
    refine s_end (K7 _ _ ?_)
    refine wp_if F rfl ?_
    refine wp_rs fun _ K8 => F.vl (eqlT (by omega) rfl rfl) fun a F => F.sg rfl fun a F => ?_
    refine s_end (K8 _ _ ?_)
    refine wp_if F rfl ?_
    refine dk2_seq (b8) (b8) (ops := regOps Try.f63 5) (N := 8) (by kernel_rfl) wide_orders (by kernel_rfl) fun w12 hw12 B13 hS K9 hK9 => ?_
    have zw12 : w12.heap.size = w4.heap.size := by rw [hw12]
    have sB13 := B13.size
    have hK := hK.below B13
    have hQ := hQ.below B13
    have h00 := bt h00 B13
    have m3 := m3.old B13
    have m4 := m4.old B13
    have m5 := m5.old B13
    have m8 := m8.old B13
    have hR := hR.below B13
    have hR_d := hR
    have m3_d := m3
    have m4_d := m4
    have m5_d := m5
    have m8_d := m8
    have hK_d := hK
    have hQ_d := hQ
    have h00_d := h00
    refine F.dv 0 20 (.fieldAddr 27 (.tmp 5) 2) hS (fun W hW => x_fa0 fa27_2 rfl) fun a F => F.dv 1 21 (.load 9 (.tmp 20)) hS (fun W hW => x_load rfl (m_load flat9 ((m5_d.k2 hW (by omega)).cell (j := 2) rfl))) fun a F => F.dv 2 22 (.fieldAddr 27 (.tmp 5) 4) hS (fun W hW => x_fa0 fa27_4 rfl) fun a F => F.dv 3 23 (.load 22 (.tmp 22)) hS (fun W hW => x_load rfl (m_load flat22 ((m5_d.k2 hW (by omega)).cell (j := 6) rfl))) fun a F => F.dv 4 24 (.load 22 (.tmp 3)) hS (fun W hW => x_load rfl (m_load flat22 ((m3_d.k2 hW (by omega)).cell (j := 0) rfl))) fun a F => ?_
    refine d1 5 (some 25) (.call (.mk (.value (.func 65)) #[(.tmp 23), (.tmp 24)] #[22, 22])) fun ty pos af => ?_
    refine s_callR (R := fun u w' => ∃ ls', RVn w' (fun k => w12.heap.size ≤ k) u ls' ∧ ls'.map slO = ls.map (fun l => instO lvs τ (slO l))) [_, _] F E65 rfl (by decide) (instAll91 A ls _ _ xs lvs τ w12 (fun k hk => by have := hA3 k hk; omega) (hxls.keep hK.size (fun k hk hb => hK.block k hb (hA2 k hk))) hlb (hT.bel h00)) ?_
    rintro u25 w14 a ⟨ls2, hz, hcz⟩ B15 F
    have sB15 := B15.size
    have hQ := hQ.below B15
    have m8 := m8.old B15
    have hS := hS.below B15
    have hR := hR.below B15
    obtain ⟨au, cu, hue, _⟩ := hz.form
    subst hue
    refine s_end ⟨hS, ?_⟩
    refine F.dv 6 26 (.build 27 #[(0, (.const (.int .i64 7))), (2, (.tmp 21)), (4, (.tmp 25))]) hS (fun W hW => x_build (vs := [(0, _), (2, _), (4, _)]) rfl (b27_024 _ _ _ _ _ _)) fun a F => ?_
    refine d1 7 none (.store 27 (.tmp 8) (.tmp 26)) fun ty pos af => ?_
    refine s_putW F rfl rfl (size_wide wide27) m8 rfl (one_cst _ _ _ _) fun w18 m8 o19 => ?_
    have so19 := o19.size
    have hQ := hQ.only o19 (by omega)
    have hz := hz.only o19 (fun k (hk : w12.heap.size ≤ k) => by omega)
    have hS := hS.only o19 (by omega)
    have hR := hR.only o19 (by omega)
    refine s_end ⟨hS, ?_⟩
    refine d_end (by kernel_rfl) (hK9 _ _ ?_)
    have hre : RE w18 (AS A s) (Gi lvs τ (.cst xs9 ls m) d ps) ⟨7, 0, xs9, (0, 0, nilS), .slice au ls2.length cu, nilS⟩ := RE_cst (hz.mono (fun k hk => .inr (by omega))) hcz (RKE.nil _ _)
    refine wp_ret (inb_ret (then_ret (res_cell F rfl rfl m8 wide27 ⟨_, rfl, ⟨⟨_, rfl, hre, fun h => by simp [CT.kids] at h⟩, hR⟩, hQ⟩)))
  · have hres : Gi lvs τ c d ps = nodeP c ps := by cases c <;> first | rfl | exact absurd hx.1 hk9.1 | exact absurd hx.1 hk9.2
    refine wp_rs fun _ K10 => F.vl (eqlF (by omega) rfl rfl) fun a F => F.sg rfl fun a F => ?_
    refine s_end (K10 _ _ ?_)
    refine wp_if F rfl ?_
    refine wp_rs fun _ K11 => F.vl (eqlF (by omega) rfl rfl) fun a F => F.sg rfl fun a F => ?_
    refine s_end (K11 _ _ ?_)
    refine wp_if F rfl ?_
    refine wp_skip (K2 _ _ ?_)
    refine wp_rs fun _ K12 => F.ld m4 flat64 rfl rfl fun a F => F.vl (x_ldW wide27 m5 rfl rfl) fun a F => F.mv rfl fun a F => ?_
    refine s_call (R := fun u w' => ((∃ y, u = tv y ∧ RE w' (fun k => (AS A s k ∧ k < W.heap.size) ∨ w4.heap.size ≤ k) (nodeP c ps) y ∧ y.ts = kv) ∧ Room w' br) ∧ Ktw br br w4 w') F [_, _, _] E66 rfl (by decide) (node92 w4 br (by omega) (fun k => AS A s k ∧ k < W.heap.size) (fun k hk => ⟨hAS k hk.1, by have := hk.2; omega⟩) c x ((hx.keep hK.size (fun k hk hb => hK.block k hb (hA2 k hk))).mono (fun k hk => ⟨.inl hk, by have := hA k hk; omega⟩)) kv ps (hkv0.keep hQ.size (fun k hk hb => hQ.block k hb ⟨hAS k hk.1, hAS k hk.1⟩)) hlen hR) ?_
    rintro _ w20 a ⟨⟨⟨y9, rfl, hy9, ht9⟩, hR⟩, k21⟩ F
    have sk21 := k21.size
    have hQ := hQ.trans k21 (by omega)
    have m8 := m8.k2 k21 (by omega)
    have hy9 := hy9.valid
    have hT9 : Tt c y9 := tt_of hlen hkv0 ht9
    clear ht9
    refine s_putW F rfl rfl (size_wide wide27) m8 rfl hy9.one fun w24 m8 o25 => ?_
    have so25 := o25.size
    have hQ := hQ.only o25 (by omega)
    have hR := hR.only o25 (by omega)
    have hy9 := hy9.only o25 (by first | (intro h; have h2 := h.2; omega) | (intro h; rcases h.1 with h1 | h1; (have := hA _ h1; omega); (have := h.2; omega)) | (intro h; rcases h.1 with h1 | h1; (have := h1.2; omega); (have := h.2; omega)) | (intro h; rcases h.1 with h1 | h1; (exact hAS _ h1.1 rfl); (have := h.2; omega)) | (intro h; rcases h with h | h; (have := hA _ h; omega); omega) | (intro h; have := hA _ h; omega) | (intro h; rcases h with h | h; (have := h.2; omega); omega) | exact Ar.nbr | exact Ai.nbr | exact Ar.no (by omega) | exact Ai.no (by omega))
    refine s_end (K12 _ _ ?_)
    refine wp_ret (res_cell F rfl rfl m8 wide27 ⟨_, rfl, ⟨⟨y9, rfl, by rw [hres]; exact hy9.mono (fun k hk => by rcases hk.1 with hk | hk; (· exact hk.1); exact .inr (by omega)), hT9⟩, hR⟩, hQ⟩)
theorem InstLevels44 (c : CT) (x : C8) (v : Value) (xs : List C3) (lvs : List Lv) (τ : Nat → SL) (w0 : World) (hx : RC w0 (fun k => k < w0.heap.size) c x) (hlb : c.lvB) (hT : Tau w0 v xs lvs τ) : Calls Try.prog 25 #[tv x, v] w0 fun e w' => ∃ u, e = .returned u ∧ (∃ y, u = tv y ∧ RT w' (if c.ok then c.ess.instL lvs τ else .odd 0) y) ∧ Below w0.heap.size w0 w' := by
 obtain ⟨a7, c7, h7, _⟩ := hT.hV.form
 subst h7
 obtain ⟨A, hAe⟩ : ∃ A : Nat → Prop, A = fun k => k < w0.heap.size := ⟨_, rfl⟩
 have hxA : RC w0 A c x := by rw [hAe]; exact hx
 have hAk : ∀ k, A k → k < w0.heap.size := fun k hk => by rw [hAe] at hk; exact hk
 have hB := Below.refl w0.heap.size w0
 have sB := hB.size
 refine calls_fs 13 [(0, tv x), (1, .slice a7 xs.length c7)] Try.func25 rfl rfl rfl rfl rfl fun a F => ?_
 refine wp_rs fun _ K1 => ?_
 refine s_box (tc x) F (by decide) rfl rfl fun w2 b2 a eb2 m2 B3 zb2 F => ?_
 have sB3 := B3.size
 have hB := bt hB B3
 refine s_box ([.slice a7 xs.length c7]) F (by decide) rfl rfl fun w4 b3 a eb3 m3 B5 zb3 F => ?_
 have sB5 := B5.size
 have hB := bt hB B5
 have m2 := m2.old B5
 refine s_alloc F (by decide) zero27 fun w6 b4 a eb4 m4 B7 zb4 F => ?_
 have sB7 := B7.size
 have hB := bt hB B7
 have m2 := m2.old B7
 have m3 := m3.old B7
 refine s_end (K1 _ _ ?_)
 refine wp_seq_k fun _ K2 => ?_
 rcases (show ¬ c.ok ∨ c.ok by by_cases h : c.ok <;> simp [h]) with hk1 | hk1
 ·
  skip
  refine wp_rs fun _ K4 => F.vl (x_ldW wide27 m2 rfl rfl) fun a F => ?_
  refine s_callB [_] F E52 rfl (by decide) ((isGreat66 c x w6 (hx.bel hB)).mono fun e w' h => ⟨by rw [h.1, decide_eq_true hk1], h.2⟩) fun w8 a B9 F => ?_
  have sB9 := B9.size
  have hB := bt hB B9
  have m4 := m4.old B9
  refine s_end (K4 _ _ ?_)
  refine wp_if F rfl ?_
  refine wp_rs fun _ K5 => F.vl (x_build (vs := []) rfl (b27_ _)) fun a F => ?_
  refine s_putW F rfl rfl (size_wide wide27) m4 rfl one8 fun w12 m4 o13 => ?_
  have so13 := o13.size
  have hB := hB.trans (o13.below (by omega))
  refine s_end (K5 _ _ ?_)
  refine wp_ret (then_ret (res_cell F rfl rfl m4 wide27 ⟨_, rfl, ⟨⟨0, 0, emptyB, (0, 0, nilS), nilS, nilS⟩, rfl, by rw [if_neg hk1]; exact (RE_bare _ (fun _ => True)).rt⟩, hB⟩))
 ·
  skip
  refine wp_rs fun _ K6 => F.vl (x_ldW wide27 m2 rfl rfl) fun a F => ?_
  refine s_callB [_] F E52 rfl (by decide) ((isGreat66 c x w6 (hx.bel hB)).mono fun e w' h => ⟨by rw [h.1, decide_eq_false (fun h => h hk1)], h.2⟩) fun w14 a B15 F => ?_
  have sB15 := B15.size
  have hB := bt hB B15
  have m2 := m2.old B15
  have m3 := m3.old B15
  have m4 := m4.old B15
  refine s_end (K6 _ _ ?_)
  refine wp_if F rfl ?_
  refine wp_skip (K2 _ _ ?_)
  refine wp_rs fun _ K7 => ?_
  refine s_callR (R := fun v w' => ∃ br, v = .pointer (some ⟨br, 0, none⟩) ∧ w14.heap.size ≤ br ∧ Blk w' br 110 [.int .i64 2147483647]) [] F E42 rfl (by decide) (newRoom56 w14) ?_
  rintro _ w16 a ⟨br, rfl, hbrw0, mbr⟩ B17 F
  have sB17 := B17.size
  have hB := bt hB B17
  have m2 := m2.old B17
  have m3 := m3.old B17
  have m4 := m4.old B17
  have hR : Room w16 br := ⟨_, mbr, by decide, by decide⟩
  have hbrl := hR.lt
  have hbrw : w0.heap.size ≤ br := by omega
  refine s_alloc1 F (by decide) zero64 rfl fun w18 b5 a eb5 m5 B19 zb5 F => ?_
  have sB19 := B19.size
  have hB := bt hB B19
  have m2 := m2.old B19
  have m3 := m3.old B19
  have m4 := m4.old B19
  have hR := hR.below B19
  refine s_put F rfl rfl flat64 m5 (by first | (simp; done) | (simp [tc, lc]; done) | decide) rfl fun w20 m5 o21 => ?_
  have so21 := o21.size
  have hB := hB.trans (o21.below (by omega))
  have m2 := m2.only o21 (by omega)
  have m3 := m3.only o21 (by omega)
  have m4 := m4.only o21 (by omega)
  have hR := hR.only o21 (by omega)
  refine s_end (K7 _ _ ?_)
  refine wp_rs fun _ K8 => F.vl (x_ldW wide27 m2 rfl rfl) fun a F => F.vl (x_mkf [_, _] rfl) fun a F => ?_
  have hx9 := hxA.keep hB.size (fun k hk _ => hB.block k (hAk k hk))
  have hA9 : ∀ k, A k → k ≠ br ∧ k < w20.heap.size := fun k hk => by have := hAk k hk; exact ⟨by omega, by omega⟩
  refine s_call (R := fun u w' => ((∃ y, u = tv y ∧ RE w' (AS A w20.heap.size) (c.fold (Gi lvs τ) 0) y ∧ Tt c y) ∧ Room w' br) ∧ Ktw br br w20 w') F [_, _, _] E62 rfl (by decide) (fold88 w20 br (by omega) A hA9 63 [.pointer (some ⟨b3, 0, none⟩), .pointer (some ⟨b5, 0, none⟩)] E63 4611686018427387904 (by decide) (Gi lvs τ) CT.lvB CT.lvB_kid (fun W c x d kv ps s h1 h2 h3 h4 h5 h6 h7 h8 h9 h10 => clo89 w0 w20 br (by omega) A hA9 _ xs lvs τ hT hB hbrw b3 b5 m3 m5 ⟨by omega, by omega⟩ 4611686018427387904 W c x d kv ps s h1 h2 h3 h4 h5 h6 h7 h8 h9 h10) (c.size + 1) c x 0 w20 (by omega) hx9 hlb (by decide) (by have := hk1.2; omega) (Ktw.refl br br _) hR) ?_
  rintro _ w22 a ⟨⟨⟨y9, rfl, hy9, hT9⟩, hR⟩, k23⟩ F
  have sk23 := k23.size
  have hB := k23.under hB (by omega)
  have m4 := m4.k2 k23 (by omega)
  rw [fold_inst] at hy9
  refine s_putW F rfl rfl (size_wide wide27) m4 rfl hy9.one fun w26 m4 o27 => ?_
  have so27 := o27.size
  have hB := hB.trans (o27.below (by omega))
  have hy9 := hy9.only o27 (by intro h; rcases h with h | h; (have := hAk _ h; omega); omega)
  refine s_end (K8 _ _ ?_)
  refine wp_ret (res_cell F rfl rfl m4 wide27 ⟨_, rfl, ⟨y9, rfl, by rw [if_pos hk1]; exact hy9.rt⟩, hB⟩)
end Go.Proofs.Ytbhhbfdoadecgaa

namespace Go.Proofs.Ytbhhbfdoadecgaa
open Go.RowKit Go.Shelf
set_option linter.unusedVariables false
set_option linter.unusedSimpArgs false
theorem instT_vf {c : Int} {K : List Int} {τ : Nat → SL} {ρ : Nat → Int} (hc : 0 ≤ c) (hlo : Lo K) (hb : ∀ j, 0 ≤ gt K j → gt K j + val (τ j) ρ ≤ 1099511627776) :
    ∀ n, c ≤ val (instT c K τ n) ρ ∧ (∀ j, j < n → 0 ≤ gt K j → gt K j + val (τ j) ρ ≤ val (instT c K τ n) ρ) ∧ (val (instT c K τ n) ρ = c ∨ ∃ j, j < n ∧ 0 ≤ gt K j ∧ val (instT c K τ n) ρ = gt K j + val (τ j) ρ)
  | 0 => by
    simp only [instT, val]
    exact ⟨by omega, fun j hj => by omega, .inl (by omega)⟩
  | n + 1 => by
    obtain ⟨h1, h2, h3⟩ := instT_vf hc hlo hb n
    have hg := hlo.gt n
    rw [instT]
    split
    · next e =>
      refine ⟨h1, fun j hj h0 => h2 j (Nat.lt_of_le_of_ne (by omega) fun e' => by subst e'; omega) h0, ?_⟩
      rcases h3 with h3 | ⟨j, h3, h4⟩
      · exact .inl h3
      · exact .inr ⟨j, by omega, h4⟩
    · next e =>
      have hb' := hb n (by omega)
      have e1 : val (.mx (instT c K τ n) (.succ (gt K n).toNat (τ n))) ρ = max (val (instT c K τ n) ρ) (gt K n + val (τ n) ρ) := by
        simp only [val, cut]
        omega
      rw [e1]
      refine ⟨by omega, fun j hj h0 => ?_, ?_⟩
      · by_cases e' : j = n
        · subst e'; omega
        · have := h2 j (by omega) h0; omega
      · by_cases hm : val (instT c K τ n) ρ ≤ gt K n + val (τ n) ρ
        · exact .inr ⟨n, by omega, by omega, by omega⟩
        · rcases h3 with h3 | ⟨j, h3, h4, h5⟩
          · exact .inl (by omega)
          · exact .inr ⟨j, by omega, h4, by omega⟩
theorem instT_tot {c B : Int} {K : List Int} {τ : Nat → SL} (hc : 0 ≤ c) (hcB : c ≤ B) (hlo : Lo K) (hb : ∀ j, 0 ≤ gt K j → gt K j + (τ j).tot ≤ B) : ∀ n, (instT c K τ n).tot ≤ B
 | 0 => by simp only [instT, SL.tot]; omega
 | n + 1 => by
  have ih := instT_tot hc hcB hlo hb n
  have hg := hlo.gt n
  rw [instT]
  split
  ·
   exact ih
  ·
   next e =>
   have := hb n (by omega)
   simp only [SL.tot]
   omega
theorem foldl_tot {B : Int} : ∀ (ps : List SL) (p : SL), p.tot ≤ B → (∀ q ∈ ps, q.tot ≤ B) → (ps.foldl SL.mx p).tot ≤ B
 | [], p, h, _ => h
 | q :: ps, p, h, h2 => by
  have h3 := h2 q (by simp)
  exact foldl_tot ps (.mx p q) (by simp only [SL.tot]; omega) fun r hr => h2 r (by simp [hr])
theorem pts_tot {c B : Int} {ks : List Int} (h0 : 0 ≤ B) (hc : c ≤ B) (hk : ∀ j, gt ks j ≤ B) : ∀ n, ∀ q ∈ pts c ks n, q.tot ≤ B
 | 0, q, h => by
  rw [pts] at h
  split at h
  ·
   simp at h; subst h; simp only [SL.tot]; omega
  ·
   simp at h
 | n + 1, q, h => by
  rw [pts, List.mem_append] at h
  rcases h with h | h
  ·
   exact pts_tot h0 hc hk n q h
  ·
   have := hk n
   unfold part1 at h
   split at h
   ·
    simp at h
   ·
    split at h
    ·
     simp at h; subst h; simp only [SL.tot]; omega
    ·
     simp at h; subst h; simp only [SL.tot]; omega
theorem levF_tot {c B : Int} {ks : List Int} (h0 : 0 ≤ B) (hc : c ≤ B) (hk : ∀ j, gt ks j ≤ B) : (levF c ks).tot ≤ B := by
 have h := pts_tot h0 hc hk ks.length
 unfold levF
 split
 ·
  simp only [SL.tot]; omega
 ·
  next p ps e =>
  rw [e] at h
  exact foldl_tot ps p (h p (by simp)) fun q hq => h q (by simp [hq])
theorem nf_tot {s : SL} (h : s.tot ≤ 1073741824) : nfC s ≤ s.tot ∧ ∀ j, gt (nfK s) j ≤ s.tot :=
 ⟨by have := nfC_is s; have := cf_tot s 0 (by decide) (by omega); have := s.tot_nn; omega, fun j => by rw [gt_nfK]; have := kf_tot s 0 j (by decide) (by omega); omega⟩
def atL (vs : List Int) : List Int := vs.map fun z => max 0 (min z 1073741824)
def innerL (τ : Nat → SL) (A : List Int) (n : Nat) : List Int := (List.range n).map fun j => val (τ j) (rho A)
end Go.Proofs.Ytbhhbfdoadecgaa

namespace Go.Proofs.Ytbhhbfdoadecgaa
set_option linter.unusedVariables false
set_option linter.unusedSimpArgs false
/-- s with τ's levels in the place of its variables, reduced. -/
def iQ (s : SL) (τ : Nat → SL) : SL := levF (nfC (instT (nfC s) (nfK s) τ (nfK s).length)) (nfK (instT (nfC s) (nfK s) τ (nfK s).length))
theorem eqF_of_val {s t : SL} (hs : s.tot ≤ 1073741824) (ht : t.tot ≤ 1073741824) (h : ∀ ρ : Nat → Int, (∀ j, 0 ≤ ρ j ∧ ρ j ≤ 34359738368) → val s ρ = val t ρ) : eqF s t := by
 have hz : ∀ j : Nat, 0 ≤ (fun _ : Nat => (0 : Int)) j ∧ (fun _ : Nat => (0 : Int)) j ≤ 34359738368 := fun j => ⟨by simp, by simp⟩
 have ho : ∀ i j, 0 ≤ oneAt i j ∧ oneAt i j ≤ 34359738368 := fun i j => by unfold oneAt; split <;> omega
 have h1 := leS_of hs ht (Int.le_of_eq (h _ hz)) (fun i _ => Int.le_of_eq (h _ (ho i)))
 have h2 := leS_of ht hs (Int.le_of_eq (h _ hz).symm) (fun i _ => Int.le_of_eq (h _ (ho i)).symm)
 have h3 := mx_comm s t
 exact ⟨h2.1.symm.trans (h3.1.symm.trans h1.1), h2.2.symm.trans (h3.2.symm.trans h1.2)⟩
theorem iQ_val {s : SL} {τ : Nat → SL} {ρ : Nat → Int} {S T B : Int} (h0 : 0 ≤ S) (hS : s.tot ≤ S) (hT : ∀ j, (τ j).tot ≤ T) (hST : S + T ≤ 1073741824) (hB : B ≤ 137438953472) (hρ : ∀ j, 0 ≤ ρ j ∧ ρ j ≤ B) :
    val (iQ s τ) ρ = val s (fun j => val (τ j) ρ) := by
  obtain ⟨n1, n2⟩ := nf_tot (s := s) (by have := (τ 0).tot_nn; have := hT 0; omega)
  have n3 := nfC_nn s
  have t0 := (τ 0).tot_nn
  have t1 := hT 0
  have b0 := hρ 0
  have vt : ∀ j, 0 ≤ val (τ j) ρ ∧ val (τ j) ρ ≤ T + B := fun j => by
    have h1 := hT j
    have := val_tot hρ (τ j) (by omega)
    omega
  have hTt := instT_tot (B := S + T) (τ := τ) n3 (by omega) (nfK_lo s) (fun j _ => by have := n2 j; have := hT j; omega) (nfK s).length
  obtain ⟨m1, m2⟩ := nf_tot (s := instT (nfC s) (nfK s) τ (nfK s).length) (by omega)
  have m3 := levF_tot (c := nfC (instT (nfC s) (nfK s) τ (nfK s).length)) (ks := nfK (instT (nfC s) (nfK s) τ (nfK s).length)) (B := S + T) (by omega) (by omega) (fun j => by have := m2 j; omega)
  have m4 : (iQ s τ).tot ≤ S + T := m3
  have e1 : val (iQ s τ) ρ = val (instT (nfC s) (nfK s) τ (nfK s).length) ρ := eqF.val hρ (nf_levF _) (by omega) (by omega)
  rw [e1]
  obtain ⟨v1, v2, v3⟩ := instT_vf (ρ := ρ) (τ := τ) n3 (nfK_lo s) (fun j _ => by have := n2 j; have := vt j; omega) (nfK s).length
  have a1 : VF (fun j => val (τ j) ρ) (nfC s) (nfK s) (val (instT (nfC s) (nfK s) τ (nfK s).length) ρ) := by
    refine ⟨v1, fun j hj => v2 j (Classical.byContradiction fun h => by rw [gt_ge (by omega)] at hj; omega) hj, ?_⟩
    rcases v3 with v3 | ⟨j, _, h1, h2⟩
    · exact .inl v3
    · exact .inr ⟨j, h1, h2⟩
  exact a1.one (val_nf (B := T + B) vt (by omega))
theorem iQ_tot {s : SL} {τ : Nat → SL} {S T : Int} (h0 : 0 ≤ S) (hS : s.tot ≤ S) (hT : ∀ j, (τ j).tot ≤ T) (hST : S + T ≤ 1073741824) : (iQ s τ).tot ≤ S + T := by
 have t0 := (τ 0).tot_nn
 have t1 := hT 0
 obtain ⟨n1, n2⟩ := nf_tot (s := s) (by omega)
 have n3 := nfC_nn s
 have hTt := instT_tot (B := S + T) (τ := τ) n3 (by omega) (nfK_lo s) (fun j _ => by have := n2 j; have := hT j; omega) (nfK s).length
 obtain ⟨m1, m2⟩ := nf_tot (s := instT (nfC s) (nfK s) τ (nfK s).length) (by omega)
 exact levF_tot (by omega) (by omega) (fun j => by have := m2 j; omega)
/-- Put in one after the other, or at once. -/
theorem iQ_iQ {s : SL} {τ σ β : Nat → SL} {S : Int} (h0 : 0 ≤ S) (hS : s.tot ≤ S) (hτ : ∀ j, (τ j).tot ≤ S) (hσ : ∀ j, (σ j).tot ≤ S) (hB : 3 * S ≤ 1073741824) (hβ : ∀ j (ρ : Nat → Int), (∀ j, 0 ≤ ρ j ∧ ρ j ≤ 34359738368) → val (β j) ρ = val (τ j) (fun i => val (σ i) ρ)) (hβt : ∀ j, (β j).tot ≤ 2 * S) :
    eqF (iQ (iQ s τ) σ) (iQ s β) := by
  have a1 := iQ_tot h0 hS hτ (by omega)
  refine eqF_of_val (Int.le_trans (iQ_tot (S := 2 * S) (T := S) (by omega) (by omega) hσ (by omega)) (by omega)) (Int.le_trans (iQ_tot (S := S) (T := 2 * S) h0 hS hβt (by omega)) (by omega)) fun ρ hρ => ?_
  have vs : ∀ j, 0 ≤ val (σ j) ρ ∧ val (σ j) ρ ≤ S + 34359738368 := fun j => by
    have h1 := hσ j
    have := val_tot hρ (σ j) (by omega)
    omega
  rw [iQ_val (S := 2 * S) (T := S) (B := 34359738368) (by omega) (by omega) hσ (by omega) (by omega) hρ, iQ_val (S := S) (T := S) (B := S + 34359738368) h0 hS hτ (by omega) (by omega) vs, iQ_val (S := S) (T := 2 * S) (B := 34359738368) h0 hS hβt (by omega) (by omega) hρ]
  congr 1
  funext j
  exact (hβ j ρ hρ).symm
/-- Its variables are below V. -/
def SL.vb (V : Nat) : SL → Prop
 | .num _ => True
 | .var i => i < V
 | .succ _ a => a.vb V
 | .mx a b => a.vb V ∧ b.vb V
theorem rkv_len : ∀ (s : SL) (n : Int) (L : List Int) (V : Nat), s.vb V → L.length ≤ V → (rk s n L).length ≤ V
 | .num _, _, L, V, _, h => h
 | .var i, n, L, V, hs, h => by simp only [rk, up_len, SL.vb] at *; omega
 | .succ m a, n, L, V, hs, h => rkv_len a _ L V hs h
 | .mx a b, n, L, V, hs, h => rkv_len b n _ V hs.2 (rkv_len a n L V hs.1 h)
theorem nfK_vb {s : SL} {V : Nat} (h : s.vb V) : (nfK s).length ≤ V := rkv_len s 0 [] V h (by simp)
theorem instT_vb {c : Int} {K : List Int} {τ : Nat → SL} {V : Nat} : ∀ n, (∀ j, j < n → (τ j).vb V) → (instT c K τ n).vb V
 | 0, h => trivial
 | n + 1, h => by
  unfold instT
  split
  ·
   exact instT_vb n (fun j hj => h j (by omega))
  ·
   exact ⟨instT_vb n (fun j hj => h j (by omega)), h n (by omega)⟩
/-- What a part of a normal form is. -/
def ptP (V : Nat) (B : Int) (p : SL) : Prop := p.size ≤ 2 ∧ p.dep ≤ 2 ∧ p.nums 1099511627776 1001 ∧ p.vb V
theorem pts_P {c : Int} {K : List Int} {B : Int} (hc : c ≤ 1099511627776) (hk : ∀ j, gt K j ≤ 1099511627776) {V : Nat} (hV : V ≤ 1001) : ∀ n, n ≤ V → ∀ p ∈ pts c K n, ptP V B p
 | 0, hn, p, h => by
  rw [pts] at h
  split at h
  ·
   simp at h; subst h; exact ⟨by simp [SL.size], by simp [SL.dep], by simp only [SL.nums]; omega, trivial⟩
  ·
   simp at h
 | n + 1, hn, p, h => by
  rw [pts, List.mem_append] at h
  rcases h with h | h
  ·
   exact pts_P hc hk hV n (by omega) p h
  ·
   have h1 := hk n
   unfold part1 at h
   split at h
   ·
    simp at h
   ·
    split at h
    ·
     simp at h; subst h; exact ⟨by simp [SL.size], by simp [SL.dep], by simp only [SL.nums]; omega, by simp only [SL.vb]; omega⟩
    ·
     simp at h; subst h; exact ⟨by simp [SL.size], by simp [SL.dep], by simp only [SL.nums]; omega, by simp only [SL.vb]; omega⟩
theorem fold_P {V : Nat} {B : Int} : ∀ (ps : List SL) (q : SL) (k : Nat), (∀ p ∈ ps, ptP V B p) → q.size ≤ 3 * k + 2 → q.dep ≤ k + 2 → q.nums 1099511627776 1001 → q.vb V →
    (ps.foldl SL.mx q).size ≤ 3 * (k + ps.length) + 2 ∧ (ps.foldl SL.mx q).dep ≤ k + ps.length + 2 ∧ (ps.foldl SL.mx q).nums 1099511627776 1001 ∧ (ps.foldl SL.mx q).vb V
  | [], q, k, _, h1, h2, h3, h4 => ⟨by simpa using h1, by simpa using h2, h3, h4⟩
  | p :: ps, q, k, h, h1, h2, h3, h4 => by
    obtain ⟨g1, g2, g3, g4⟩ := h p (by simp)
    have := fold_P ps (.mx q p) (k + 1) (fun x hx => h x (by simp [hx])) (by simp only [SL.size]; omega) (by simp only [SL.dep]; omega) ⟨h3, g3⟩ ⟨h4, g4⟩
    simp only [List.foldl_cons, List.length_cons]
    rw [show k + (ps.length + 1) = k + 1 + ps.length by omega]
    exact this
theorem levF_good {c : Int} {K : List Int} (hc : c ≤ 1099511627776) (hk : ∀ j, gt K j ≤ 1099511627776) {V : Nat} (hK : K.length ≤ V) (hV : V ≤ 100) : (levF c K).good ∧ (levF c K).vb V := by
 have h1 := pts_P (B := 0) hc hk (V := V) (by omega) K.length hK
 have h2 := pts_le c K K.length
 unfold levF
 split
 ·
  exact ⟨⟨by simp [SL.size], by simp [SL.dep], by simp [SL.nums]⟩, trivial⟩
 ·
  next p ps he =>
  rw [he] at h1 h2
  obtain ⟨g1, g2, g3, g4⟩ := h1 p (by simp)
  obtain ⟨f1, f2, f3, f4⟩ := fold_P ps p 0 (fun x hx => h1 x (by simp [hx])) (by omega) (by omega) g3 g4
  simp only [List.length_cons] at h2
  exact ⟨⟨by omega, by omega, f3⟩, f4⟩
theorem iQ_good {s : SL} {τ : Nat → SL} {S T : Int} {V : Nat} (h0 : 0 ≤ S) (hS : s.tot ≤ S) (hT : ∀ j, (τ j).tot ≤ T) (hST : S + T ≤ 1073741824) (hV : V ≤ 100) (hs : s.vb V) (hτ : ∀ j, j < V → (τ j).vb V) : (iQ s τ).good ∧ (iQ s τ).vb V := by
 have t0 := (τ 0).tot_nn
 have t1 := hT 0
 obtain ⟨n1, n2⟩ := nf_tot (s := s) (by omega)
 have n3 := nfC_nn s
 have hl := nfK_vb hs
 have hTt := instT_tot (B := S + T) (τ := τ) n3 (by omega) (nfK_lo s) (fun j _ => by have := n2 j; have := hT j; omega) (nfK s).length
 obtain ⟨m1, m2⟩ := nf_tot (s := instT (nfC s) (nfK s) τ (nfK s).length) (by omega)
 have hb : (instT (nfC s) (nfK s) τ (nfK s).length).vb V := instT_vb _ (fun j hj => hτ j (by omega))
 exact levF_good (by omega) (fun j => by have := m2 j; omega) (nfK_vb hb) hV
end Go.Proofs.Ytbhhbfdoadecgaa

namespace Go.Proofs.Ytbhhbfdoadecgaa
open Go.RowKit Go.Shelf
set_option linter.unusedVariables false
set_option linter.unusedSimpArgs false
def lv6 (l : Lv) : Prop := (chk 32 1048576 6 1 100 l).1 = 0
theorem nums_mono {t1 v1 t2 v2 : Nat} (ht : t1 ≤ t2) (hv : v1 ≤ v2) : ∀ s : SL, s.nums t1 v1 → s.nums t2 v2
 | .num n, h => Nat.le_trans h ht
 | .var i, h => Nat.lt_of_lt_of_le h hv
 | .succ n a, h => ⟨h.1, Nat.le_trans h.2.1 ht, nums_mono ht hv a h.2.2⟩
 | .mx a b, h => ⟨nums_mono ht hv a h.1, nums_mono ht hv b h.2⟩
theorem nums_vb {t V : Nat} : ∀ s : SL, s.nums t V → s.vb V
 | .num n, h => trivial
 | .var i, h => h
 | .succ n a, h => nums_vb a h.2.2
 | .mx a b, h => ⟨nums_vb a h.1, nums_vb b h.2⟩
theorem nums_tot {V : Nat} : ∀ s : SL, s.nums 1048576 V → s.tot ≤ 1048576 * (s.dep : Int)
 | .num n, h => by have h : n ≤ 1048576 := h; simp only [SL.tot, SL.dep]; omega
 | .var i, h => by simp only [SL.tot, SL.dep]; omega
 | .succ n a, h => by have h1 := nums_tot a h.2.2; have h2 := h.2.1; simp only [SL.tot, SL.dep]; omega
 | .mx a b, h => by have h1 := nums_tot a h.1; have h2 := nums_tot b h.2; simp only [SL.tot, SL.dep]; omega
theorem lv6_sl {W : World} {x : C3} {l : Lv} (hL : RL W x l) (h : lv6 l) : ∃ s, RS W s x ∧ s.good ∧ s.tot ≤ 33554432 ∧ s.vb 6 ∧ slO l = some s ∧ sndL l := by
 obtain ⟨s, h1, h2, h3, h4⟩ := chk_sl (D := 32) (top := 1048576) (vars := 6) hL 1 100 h
 have hg : s.good := ⟨by omega, by omega, nums_mono (by decide) (by decide) s h2⟩
 have ht := nums_tot s h2
 exact ⟨s, h1, hg, by omega, nums_vb s h2, slO_of hL h1 hg, rs_snd hL h1 hg⟩
theorem mkTau {W : World} {v : Value} {xs : List C3} {lvs : List Lv} (hV : Rd W v 3 xs.length (xs.flatMap lc)) (hls : xs.length = lvs.length) (hl : ∀ (i : Nat) x l, xs[i]? = some x → lvs[i]? = some l → RL W x l) (h6 : ∀ l ∈ lvs, lv6 l) :
    ∃ τ, Tau W v xs lvs τ ∧ (∀ j, (τ j).tot ≤ 33554432) ∧ (∀ j, j < 6 → (τ j).vb 6) ∧ ∀ (i : Nat) l, lvs[i]? = some l → slO l = some (τ i) := by
  have hex : ∀ i : Nat, ∃ s : SL, (xs.length ≤ i → s = .var i) ∧ (∀ x l, xs[i]? = some x → lvs[i]? = some l → RS W s x ∧ s.good ∧ slO l = some s) ∧ s.tot ≤ 33554432 ∧ (i < 6 → s.vb 6) := by
    intro i
    by_cases hi : i < xs.length
    · have e1 := List.getElem?_eq_getElem hi
      have e2 := List.getElem?_eq_getElem (show i < lvs.length by omega)
      obtain ⟨s, h1, h2, h3, h4, h5, _⟩ := lv6_sl (hl i _ _ e1 e2) (h6 _ (List.mem_of_getElem? e2))
      exact ⟨s, fun h => by omega, fun x l g1 g2 => by rw [e1] at g1; rw [e2] at g2; cases g1; cases g2; exact ⟨h1, h2, h5⟩, h3, fun _ => h4⟩
    · exact ⟨.var i, fun _ => rfl, fun x l g1 _ => (by rw [List.getElem?_eq_none (by omega)] at g1; cases g1), by simp only [SL.tot]; decide, fun h => h⟩
  obtain ⟨τ, hτ⟩ := Classical.axiomOfChoice hex
  refine ⟨τ, ⟨hV, hls, hl, fun i x l e1 e2 _ => ⟨((hτ i).2.1 x l e1 e2).1, ((hτ i).2.1 x l e1 e2).2.1⟩, fun i hi => (hτ i).1 hi⟩, fun j => (hτ j).2.2.1, fun j hj => (hτ j).2.2.2 hj, fun i l e2 => ?_⟩
  have hi : i < xs.length := by have := (List.getElem?_eq_some_iff.1 e2).1; omega
  exact ((hτ i).2.1 _ l (List.getElem?_eq_getElem hi) e2).2.2
theorem instO_good {lvs : List Lv} {τ : Nat → SL} {s : SL} (hs : ∀ l ∈ lvs, sndL l) (hg : (iS s τ).good) : instO lvs τ (some s) = some (iS s τ) := by
 unfold instO goodO
 simp only
 rw [if_neg (fun ⟨i, _, _, l, e, h⟩ => h (hs l (List.mem_of_getElem? e))), if_pos hg]
/-- What is put in is not great. -/
structure Fine (lvs : List Lv) (τ : Nat → SL) (T : Int) : Prop where
 snd : ∀ l ∈ lvs, sndL l
 tot : ∀ j, (τ j).tot ≤ T
 vb : ∀ j, j < 6 → (τ j).vb 6
theorem iS_fine {lvs : List Lv} {τ : Nat → SL} {s : SL} {S T : Int} (h : Fine lvs τ T) (h0 : 0 ≤ S) (hs : s.tot ≤ S) (hv : s.vb 6) (hST : S + T ≤ 1073741824) : instO lvs τ (some s) = some (iS s τ) ∧ (iS s τ).tot ≤ S + T ∧ (iS s τ).vb 6 ∧ (iS s τ).good := by
 have hg := iQ_good (V := 6) h0 hs h.tot hST (by decide) hv h.vb
 exact ⟨instO_good h.snd hg.1, iQ_tot h0 hs h.tot hST, hg.2, hg.1⟩
section
variable {lu lw lb : List Lv} {τ σ β : Nat → SL}
theorem beta_fine (hu : Fine lu τ 33554432) (hw : Fine lw σ 33554432) (hb : ∀ l ∈ lb, sndL l) (h1 : ∀ j, j < 6 → β j = iS (τ j) σ) (h2 : ∀ j, 6 ≤ j → β j = .var j) : Fine lb β 67108864 := by
 refine ⟨hb, fun j => ?_, fun j hj => ?_⟩
 ·
  by_cases hj : j < 6
  ·
   rw [h1 j hj]; exact iQ_tot (S := 33554432) (T := 33554432) (by decide) (hu.tot j) hw.tot (by decide)
  ·
   rw [h2 j (by omega)]; simp only [SL.tot]; decide
 ·
  rw [h1 j hj]; exact (iS_fine hw (S := 33554432) (by decide) (hu.tot j) (hu.vb j hj) (by decide)).2.2.1
theorem inst_twoO (hu : Fine lu τ 33554432) (hw : Fine lw σ 33554432) (hb : ∀ l ∈ lb, sndL l) (h1 : ∀ j, j < 6 → β j = iS (τ j) σ) (h2 : ∀ j, 6 ≤ j → β j = .var j ∧ τ j = .var j ∧ σ j = .var j) {s : SL} (hs : s.tot ≤ 33554432) (hv : s.vb 6) : eqO (instO lw σ (instO lu τ (some s))) (instO lb β (some s)) := by
 have hB := beta_fine hu hw hb h1 (fun j hj => (h2 j hj).1)
 obtain ⟨a1, a2, a3, _⟩ := iS_fine hu (S := 33554432) (by decide) hs hv (by decide)
 obtain ⟨b1, _⟩ := iS_fine hw (S := 67108864) (by decide) (by omega) a3 (by decide)
 obtain ⟨c1, _⟩ := iS_fine hB (S := 33554432) (by decide) hs hv (by decide)
 rw [a1, b1, c1]
 refine iQ_iQ (S := 33554432) (by decide) hs hu.tot hw.tot (by decide) (fun j ρ hρ => ?_) (fun j => by have := hB.tot j; omega)
 by_cases hj : j < 6
 ·
  rw [h1 j hj]
  exact iQ_val (S := 33554432) (T := 33554432) (B := 34359738368) (by decide) (hu.tot j) hw.tot (by decide) (by decide) hρ
 ·
  obtain ⟨e1, e2, e3⟩ := h2 j (by omega)
  rw [e1, e2]
  simp only [val]
  rw [e3]
  simp only [val]
theorem instL_two (hu : Fine lu τ 33554432) (hw : Fine lw σ 33554432) (hb : ∀ l ∈ lb, sndL l) (h1 : ∀ j, j < 6 → β j = iS (τ j) σ) (h2 : ∀ j, 6 ≤ j → β j = .var j ∧ τ j = .var j ∧ σ j = .var j) {W : World} {A : Nat → Prop} : ∀ (c : CT) (x : C8), RC W A c x → c.okV 6 → sameP ((c.ess.instL lu τ).instL lw σ) (c.ess.instL lb β)
 | .var n m, x, hx, h => rfl
 | .sort l m, x, hx, h => by
  obtain ⟨s, _, _, h3, h4, h5, _⟩ := lv6_sl hx.2.1.rl h
  show eqO _ _
  rw [h5]
  exact inst_twoO hu hw hb h1 h2 h3 h4
 | .cst s ls m, x, hx, h => by
  refine ⟨rfl, by simp [CT.ess, PT.instL], fun i o p e1 e2 => ?_⟩
  obtain ⟨xs, _, g2, g3⟩ := hx.2.2.1
  simp only [List.getElem?_map, Option.map_eq_some_iff] at e1 e2
  obtain ⟨o1, ⟨o2, ⟨l, hl, rfl⟩, rfl⟩, rfl⟩ := e1
  obtain ⟨o3, ⟨l2, hl2, rfl⟩, rfl⟩ := e2
  rw [hl] at hl2
  cases hl2
  have hi : i < xs.length := by have := (List.getElem?_eq_some_iff.1 hl).1; omega
  obtain ⟨s, _, _, h3, h4, h5, _⟩ := lv6_sl (g3 i _ l (List.getElem?_eq_getElem hi) hl).rl (h.2 l (List.mem_of_getElem? hl))
  rw [h5]
  exact inst_twoO hu hw hb h1 h2 h3 h4
 | .odd k m, x, hx, h => h.elim
 | .two k a b m, x, hx, h => by
  obtain ⟨_, _, ⟨y, z, cs, _, ha, hb'⟩, _⟩ := hx
  exact ⟨rfl, instL_two hu hw hb h1 h2 a y ha h.1, instL_two hu hw hb h1 h2 b z hb' h.2⟩
 | .lt a b c m, x, hx, h => by
  obtain ⟨_, ⟨y, z, u, cs, _, ha, hb', hc⟩, _⟩ := hx
  exact ⟨instL_two hu hw hb h1 h2 a y ha h.1, instL_two hu hw hb h1 h2 b z hb' h.2.1, instL_two hu hw hb h1 h2 c u hc h.2.2⟩
end
def PT.lvP : PT → Prop
 | .cst _ os => os.length ≤ 100000000
 | .two _ a b => a.lvP ∧ b.lvP
 | .lt a b c => a.lvP ∧ b.lvP ∧ c.lvP
 | _ => True
theorem lvP_ess : ∀ c : CT, c.ess.lvP ↔ c.lvB
 | .var .. => Iff.rfl
 | .sort .. => Iff.rfl
 | .cst s ls m => by simp [CT.ess, PT.lvP, CT.lvB]
 | .odd .. => Iff.rfl
 | .two k a b m => by simp only [CT.ess, PT.lvP, CT.lvB, lvP_ess a, lvP_ess b]
 | .lt a b c m => by simp only [CT.ess, PT.lvP, CT.lvB, lvP_ess a, lvP_ess b, lvP_ess c]
theorem instL_keeps (lvs : List Lv) (τ : Nat → SL) : ∀ p : PT, (p.instL lvs τ).size = p.size ∧ (p.instL lvs τ).dep = p.dep ∧ ((p.instL lvs τ).lvP ↔ p.lvP) ∧ ((p.instL lvs τ).fit ↔ p.fit)
 | .var n => ⟨rfl, rfl, Iff.rfl, Iff.rfl⟩
 | .sort o => ⟨rfl, rfl, Iff.rfl, Iff.rfl⟩
 | .cst s os => ⟨rfl, rfl, by simp [PT.instL, PT.lvP], by simp [PT.instL, PT.fit]⟩
 | .odd k => ⟨rfl, rfl, Iff.rfl, Iff.rfl⟩
 | .two k a b => by
  obtain ⟨a1, a2, a3, a4⟩ := instL_keeps lvs τ a
  obtain ⟨b1, b2, b3, b4⟩ := instL_keeps lvs τ b
  simp only [PT.instL, PT.size, PT.dep, PT.lvP, PT.fit, a1, a2, a3, a4, b1, b2, b3, b4]
  simp
 | .lt a b c => by
  obtain ⟨a1, a2, a3, a4⟩ := instL_keeps lvs τ a
  obtain ⟨b1, b2, b3, b4⟩ := instL_keeps lvs τ b
  obtain ⟨c1, c2, c3, c4⟩ := instL_keeps lvs τ c
  simp only [PT.instL, PT.size, PT.dep, PT.lvP, PT.fit, a1, a2, a3, a4, b1, b2, b3, b4, c1, c2, c3, c4]
  simp
theorem instL_ok {lvs : List Lv} {τ : Nat → SL} {p : PT} : (p.instL lvs τ).ok ↔ p.ok := by
 obtain ⟨h1, h2, _⟩ := instL_keeps lvs τ p
 unfold PT.ok
 rw [h1, h2]
end Go.Proofs.Ytbhhbfdoadecgaa

namespace Go.Proofs.Ytbhhbfdoadecgaa
set_option maxRecDepth 100000
set_option maxHeartbeats 1600000
open Go.RowKit Go.Shelf
set_option linter.unusedVariables false
set_option linter.unusedSimpArgs false
theorem rInst53n (x : C3) (l : Lv) (v : Value) (xs : List C3) (lvs : List Lv) (τ : Nat → SL) (w0 : World) (hL : RL w0 x l) (hT : Tau w0 v xs lvs τ) : Calls Try.prog 30 #[lv x, v] w0 fun e w' => ∃ u, e = .returned u ∧ (∃ z l', u = lv z ∧ RLx w' (fun k => w0.heap.size ≤ k) z l' ∧ slO l' = instO lvs τ (slO l)) ∧ Below w0.heap.size w0 w' := by
 refine (rInst28 x l xs lvs v τ w0 hL hT.hV hT.hls hT.hl hT.ht hT.ht2).mono ?_
 rintro e w' ⟨u, h1, ⟨z, h2, h3, h4⟩, h5⟩
 refine ⟨u, h1, ?_, h5⟩
 by_cases hs : sndL l
 ·
  obtain ⟨s, hsx, hg⟩ := sound_sl hL hs
  rw [slO_of hL hsx hg]
  obtain ⟨h6, h7⟩ := h4 s hsx hg
  by_cases hb : ∃ i, bad lvs (nfK s) i
  ·
   obtain ⟨l', h8, h9⟩ := zeroL w' (fun k => w0.heap.size ≤ k)
   refine ⟨z, l', h2, by rw [h6 hb]; exact h8, ?_⟩
   rw [h9]; exact (if_pos hb).symm
  ·
   have h8 := h7 hb
   obtain ⟨l', h9⟩ := h8.rln
   refine ⟨z, l', h2, h9, ?_⟩
   rw [slO_good h8.rs h9.rl]; exact (if_neg hb).symm
 ·
  obtain ⟨l', h8, h9⟩ := zeroL w' (fun k => w0.heap.size ≤ k)
  refine ⟨z, l', h2, by rw [h3 hs]; exact h8, ?_⟩
  rw [h9, (slO_none hL).2 hs]; rfl
theorem RE_list {W : World} {A : Nat → Prop} : ∀ (xs : List C8) (ps : List PT), xs.length = ps.length → (∀ (i : Nat) x p, xs[i]? = some x → ps[i]? = some p → RE W A p x) → ∃ cs : List CT, xs.length = cs.length ∧ (∀ (i : Nat) x c, xs[i]? = some x → cs[i]? = some c → RC W A c x) ∧ cs.map CT.ess = ps
 | [], [], _, _ => ⟨[], rfl, (fun i x c h => by simp at h), rfl⟩
 | [], _ :: _, h, _ => by simp at h
 | _ :: _, [], h, _ => by simp at h
 | x :: xs, p :: ps, hl, h => by
  obtain ⟨c, hc, he⟩ := h 0 x p rfl rfl
  obtain ⟨cs, h1, h2, h3⟩ := RE_list xs ps (by simpa using hl) (fun i y q e1 e2 => h (i + 1) y q (by simpa using e1) (by simpa using e2))
  refine ⟨c :: cs, by simp [h1], fun i y d e1 e2 => ?_, by simp [h3, he]⟩
  cases i with
  | zero => simp at e1 e2; subst e1 e2; exact hc
  | succ i => exact h2 i y d (by simpa using e1) (by simpa using e2)
theorem RKE.rk {W : World} {A : Nat → Prop} {v : Value} {ps : List PT} : RKE W A v ps → ∃ cs, RK W A v cs ∧ cs.map CT.ess = ps := fun ⟨xs, h1, h2, h3⟩ => let ⟨cs, g1, g2, g3⟩ := RE_list xs ps h2 h3; ⟨cs, ⟨xs, h1, g1, g2⟩, g3⟩
theorem RK.valid {W : World} {A : Nat → Prop} {v : Value} {cs : List CT} : RK W A v cs → RK W (fun k => A k ∧ k < W.heap.size) v cs := fun ⟨xs, h1, h2, h3⟩ => ⟨xs, h1.lt, h2, fun i x c e1 e2 => (h3 i x c e1 e2).valid⟩
theorem RK.bel {w W : World} {v : Value} {cs : List CT} (hB : Below w.heap.size w W) : RK w (fun k => k < w.heap.size) v cs → RK W (fun k => k < W.heap.size) v cs := fun ⟨xs, h1, h2, h3⟩ => ⟨xs, (h1.keep hB.size (fun k hk _ => hB.block k hk)).mono (fun k hk => Nat.lt_of_lt_of_le hk hB.size), h2, fun i x c e1 e2 => (h3 i x c e1 e2).bel hB⟩
theorem okV_spH {vars : Int} : ∀ (c : CT), c.okV vars → c.spH.okV vars
 | .two k a b m, h => by
  by_cases hk : k = 6
  ·
   simp only [CT.spH, hk, if_true]; exact okV_spH a h.1
  ·
   simp only [CT.spH, hk, if_false]; exact h
 | .var .., h => h
 | .sort .., h => h
 | .cst .., h => h
 | .lt .., h => h
 | .odd .., h => h
theorem spH_not6 {vars : Int} {c : CT} (h : c.okV vars) : c.spH.kd ≠ 6 := by
 intro h6
 have h1 := okV_spH c h
 have h2 := c.spH_kd
 revert h1 h2 h6
 cases c.spH with
 | two k a b m => intro h6 _ h2; exact h2 ⟨h6, by simp [CT.kids]⟩
 | odd k m => intro _ h1 _; exact h1.elim
 | var n m => intro h6; simp [CT.kd] at h6
 | sort n m => intro h6; simp [CT.kd] at h6
 | cst s n m => intro h6; simp [CT.kd] at h6
 | lt a b c m => intro h6; simp [CT.kd] at h6
theorem kd_ess {c d : CT} (h : c.ess = d.ess) : c.kd = d.kd := by cases c <;> cases d <;> simp [CT.ess] at h <;> simp [CT.kd] <;> first | exact h.1 | exact h | skip
theorem one_rows {xs : List C3} (h : ∀ x ∈ xs, ∀ u ∈ lc x, u.oneCell' = true) : ∀ u ∈ xs.flatMap lc, u.oneCell' = true := fun u hu => by obtain ⟨y, hy, hu⟩ := List.mem_flatMap.1 hu; exact h y hy u hu
theorem rows_app {W : World} {xs ys : List C3} {ls ms : List Lv} (h1 : xs.length = ls.length) (h2 : ys.length = ms.length) (g1 : ∀ (i : Nat) x l, xs[i]? = some x → ls[i]? = some l → RL W x l) (g2 : ∀ (i : Nat) x l, ys[i]? = some x → ms[i]? = some l → RL W x l) : ∀ (i : Nat) x l, (xs ++ ys)[i]? = some x → (ls ++ ms)[i]? = some l → RL W x l := by
 intro i x l e1 e2
 by_cases hi : i < xs.length
 ·
  rw [List.getElem?_append_left hi] at e1
  rw [List.getElem?_append_left (by omega)] at e2
  exact g1 i x l e1 e2
 ·
  rw [List.getElem?_append_right (by omega)] at e1
  rw [List.getElem?_append_right (by omega), ← h1] at e2
  exact g2 _ x l e1 e2
theorem rows_one {W : World} {xs : List C3} {ls : List Lv} (h1 : xs.length = ls.length) (g1 : ∀ (i : Nat) x l, xs[i]? = some x → ls[i]? = some l → RL W x l) : ∀ x ∈ xs, ∀ u ∈ lc x, u.oneCell' = true := fun x hx => by
 obtain ⟨i, hi, he⟩ := List.getElem_of_mem hx
 exact one_lc (g1 i x _ (by rw [← he]; exact List.getElem?_eq_getElem hi) (List.getElem?_eq_getElem (by omega))).one1
theorem termSpines_walk (a0 : CT) (x : C8) (vu vw : Value) (lu lw : List Lv) (w0 : World) (hx : RC w0 (fun k => k < w0.heap.size) a0 x) (fa : a0.fit) (hu : RVn w0 (fun k => k < w0.heap.size) vu lu) (hw : RVn w0 (fun k => k < w0.heap.size) vw lw) : Calls Try.prog 5 #[tv x, vu, vw] w0 fun e w' => e = .returned (.bool true) ∧ Below w0.heap.size w0 w' := by
 obtain ⟨xu, ⟨hRu, _⟩, hlu, hku0⟩ := hu
 obtain ⟨xw, ⟨hRw, _⟩, hlw, hkw0⟩ := hw
 have hku := fun i y l e1 e2 => (hku0 i y l e1 e2).rl
 have hkw := fun i y l e1 e2 => (hkw0 i y l e1 e2).rl
 obtain ⟨au, cu, hve, _⟩ := hRu.form
 subst hve
 obtain ⟨aw, cw, hve, _⟩ := hRw.form
 subst hve
 have hB := Below.refl w0.heap.size w0
 have sB := hB.size
 refine calls_fs 97 [(0, tv x), (1, .slice au xu.length cu), (2, .slice aw xw.length cw)] Try.func5 rfl rfl rfl rfl rfl fun a F => ?_
 refine wp_rs fun _ K1 => ?_
 refine s_box (tc x) F (by decide) rfl rfl fun w2 b3 a eb3 m3 B3 zb3 F => ?_
 have sB3 := B3.size
 have hB := bt hB B3
 refine F.sg rfl fun a F => ?_
 refine s_end (K1 _ _ ?_)
 refine wp_seq_k fun _ K2 => ?_
 rcases (show (allW [a0] = false) ∨ (allW [a0] = true ∧ 6 < xu.length) ∨ (allW [a0] = true ∧ ¬ 6 < xu.length ∧ 6 < xw.length) ∨ (allW [a0] = true ∧ ¬ 6 < xu.length ∧ ¬ 6 < xw.length) by cases allW [a0] <;> simp <;> omega) with haw | ⟨haw, hq1⟩ | ⟨haw, hq1, hq2⟩ | ⟨haw, hq1, hq2⟩
 ·
  skip
  refine wp_rs fun _ K4 => F.vl (x_ldW wide27 m3 rfl rfl) fun a F => ?_
  refine s_litG [tv x] el25 F (by decide) rfl (by simp [Value.cells, tc]) rfl (by decide) (by decide) fun w4 bl a ebl ml B5 zbl F => ?_
  have sB5 := B5.size
  have hB := bt hB B5
  have ml : Blk w4 bl 27 (tc x) := by simpa [Value.cells] using ml
  have hrk : RK w4 (fun k => k < w4.heap.size) (.slice (some ⟨bl, 0, none⟩) 1 1) [a0] := ⟨[x], ⟨by simpa using Rd.blk ml (n := 1) rfl, fun _ b hb => by simp [Value.ownBlock] at hb; subst hb; exact ml.lt⟩, rfl, fun i x2 c2 e1 e2 => by rcases i with _ | i; (· simp at e1 e2; subst e1 e2; exact hx.bel hB); simp at e1⟩
  refine s_callB [_] F E27 rfl (by decide) ((whole50e [a0] _ w4 hrk (by simp) (by intro c hc; simp at hc; subst hc; exact fa)).mono fun e w' h => ⟨by rw [h.1, haw], h.2⟩) fun w6 a B7 F => ?_
  have sB7 := B7.size
  have hB := bt hB B7
  refine F.vl (x_not rfl) fun a F => F.mv rfl fun a F => s_grdn 18 F rfl rfl (by decide) fun a F => s_grdn 18 F rfl rfl (by decide) fun a F => s_grdn 18 F rfl rfl (by decide) fun a F => F.vl (x_pick (b := true) rfl rfl) fun a F => F.mv rfl fun a F => s_grdn 23 F rfl rfl (by decide) fun a F => s_grdn 23 F rfl rfl (by decide) fun a F => s_grdn 23 F rfl rfl (by decide) fun a F => F.vl (x_pick (b := true) rfl rfl) fun a F => ?_
  refine s_end (K4 _ _ ?_)
  refine wp_if F rfl ?_
  refine wp_rs fun _ K5 => ?_
  refine s_callB [] F E9 rfl (by decide) (awake15 w6) fun w8 a B9 F => ?_
  have sB9 := B9.size
  have hB := bt hB B9
  refine F.sg rfl fun a F => ?_
  refine s_end (K5 _ _ ?_)
  refine wp_ret (then_ret (res_slot F rfl rfl ⟨rfl, hB⟩))
 ·
  skip
  refine wp_rs fun _ K6 => F.vl (x_ldW wide27 m3 rfl rfl) fun a F => ?_
  refine s_litG [tv x] el25 F (by decide) rfl (by simp [Value.cells, tc]) rfl (by decide) (by decide) fun w10 bl a ebl ml B11 zbl F => ?_
  have sB11 := B11.size
  have hB := bt hB B11
  have ml : Blk w10 bl 27 (tc x) := by simpa [Value.cells] using ml
  have hrk : RK w10 (fun k => k < w10.heap.size) (.slice (some ⟨bl, 0, none⟩) 1 1) [a0] := ⟨[x], ⟨by simpa using Rd.blk ml (n := 1) rfl, fun _ b hb => by simp [Value.ownBlock] at hb; subst hb; exact ml.lt⟩, rfl, fun i x2 c2 e1 e2 => by rcases i with _ | i; (· simp at e1 e2; subst e1 e2; exact hx.bel hB); simp at e1⟩
  refine s_callB [_] F E27 rfl (by decide) ((whole50e [a0] _ w10 hrk (by simp) (by intro c hc; simp at hc; subst hc; exact fa)).mono fun e w' h => ⟨by rw [h.1, haw], h.2⟩) fun w12 a B13 F => ?_
  have sB13 := B13.size
  have hB := bt hB B13
  refine F.vl (x_not rfl) fun a F => F.mv rfl fun a F => s_grd 18 F rfl rfl rfl <| F.mv rfl fun a F => s_grd 18 F rfl rfl rfl <| F.vl (x_len Try.underlying22 rfl) fun a F => s_grd 18 F rfl rfl rfl <| F.vl (gtrT (by omega) rfl rfl) fun a F => F.vl (x_pick (b := false) rfl rfl) fun a F => F.mv rfl fun a F => s_grdn 23 F rfl rfl (by decide) fun a F => s_grdn 23 F rfl rfl (by decide) fun a F => s_grdn 23 F rfl rfl (by decide) fun a F => F.vl (x_pick (b := true) rfl rfl) fun a F => ?_
  refine s_end (K6 _ _ ?_)
  refine wp_if F rfl ?_
  refine wp_rs fun _ K7 => ?_
  refine s_callB [] F E9 rfl (by decide) (awake15 w12) fun w14 a B15 F => ?_
  have sB15 := B15.size
  have hB := bt hB B15
  refine F.sg rfl fun a F => ?_
  refine s_end (K7 _ _ ?_)
  refine wp_ret (then_ret (res_slot F rfl rfl ⟨rfl, hB⟩))
 ·
  skip
  refine wp_rs fun _ K8 => F.vl (x_ldW wide27 m3 rfl rfl) fun a F => ?_
  refine s_litG [tv x] el25 F (by decide) rfl (by simp [Value.cells, tc]) rfl (by decide) (by decide) fun w16 bl a ebl ml B17 zbl F => ?_
  have sB17 := B17.size
  have hB := bt hB B17
  have ml : Blk w16 bl 27 (tc x) := by simpa [Value.cells] using ml
  have hrk : RK w16 (fun k => k < w16.heap.size) (.slice (some ⟨bl, 0, none⟩) 1 1) [a0] := ⟨[x], ⟨by simpa using Rd.blk ml (n := 1) rfl, fun _ b hb => by simp [Value.ownBlock] at hb; subst hb; exact ml.lt⟩, rfl, fun i x2 c2 e1 e2 => by rcases i with _ | i; (· simp at e1 e2; subst e1 e2; exact hx.bel hB); simp at e1⟩
  refine s_callB [_] F E27 rfl (by decide) ((whole50e [a0] _ w16 hrk (by simp) (by intro c hc; simp at hc; subst hc; exact fa)).mono fun e w' h => ⟨by rw [h.1, haw], h.2⟩) fun w18 a B19 F => ?_
  have sB19 := B19.size
  have hB := bt hB B19
  refine F.vl (x_not rfl) fun a F => F.mv rfl fun a F => s_grd 18 F rfl rfl rfl <| F.mv rfl fun a F => s_grd 18 F rfl rfl rfl <| F.vl (x_len Try.underlying22 rfl) fun a F => s_grd 18 F rfl rfl rfl <| F.vl (gtrF (by omega) rfl rfl) fun a F => F.vl (x_pick (b := false) rfl rfl) fun a F => F.mv rfl fun a F => s_grd 23 F rfl rfl rfl <| F.mv rfl fun a F => s_grd 23 F rfl rfl rfl <| F.vl (x_len Try.underlying22 rfl) fun a F => s_grd 23 F rfl rfl rfl <| F.vl (gtrT (by omega) rfl rfl) fun a F => F.vl (x_pick (b := false) rfl rfl) fun a F => ?_
  refine s_end (K8 _ _ ?_)
  refine wp_if F rfl ?_
  refine wp_rs fun _ K9 => ?_
  refine s_callB [] F E9 rfl (by decide) (awake15 w18) fun w20 a B21 F => ?_
  have sB21 := B21.size
  have hB := bt hB B21
  refine F.sg rfl fun a F => ?_
  refine s_end (K9 _ _ ?_)
  refine wp_ret (then_ret (res_slot F rfl rfl ⟨rfl, hB⟩))
 ·
  skip
  refine wp_rs fun _ K10 => F.vl (x_ldW wide27 m3 rfl rfl) fun a F => ?_
  refine s_litG [tv x] el25 F (by decide) rfl (by simp [Value.cells, tc]) rfl (by decide) (by decide) fun w22 bl a ebl ml B23 zbl F => ?_
  have sB23 := B23.size
  have hB := bt hB B23
  have m3 := m3.old B23
  have ml : Blk w22 bl 27 (tc x) := by simpa [Value.cells] using ml
  have hrk : RK w22 (fun k => k < w22.heap.size) (.slice (some ⟨bl, 0, none⟩) 1 1) [a0] := ⟨[x], ⟨by simpa using Rd.blk ml (n := 1) rfl, fun _ b hb => by simp [Value.ownBlock] at hb; subst hb; exact ml.lt⟩, rfl, fun i x2 c2 e1 e2 => by rcases i with _ | i; (· simp at e1 e2; subst e1 e2; exact hx.bel hB); simp at e1⟩
  refine s_callB [_] F E27 rfl (by decide) ((whole50e [a0] _ w22 hrk (by simp) (by intro c hc; simp at hc; subst hc; exact fa)).mono fun e w' h => ⟨by rw [h.1, haw], h.2⟩) fun w24 a B25 F => ?_
  have sB25 := B25.size
  have hB := bt hB B25
  have m3 := m3.old B25
  refine F.vl (x_not rfl) fun a F => F.mv rfl fun a F => s_grd 18 F rfl rfl rfl <| F.mv rfl fun a F => s_grd 18 F rfl rfl rfl <| F.vl (x_len Try.underlying22 rfl) fun a F => s_grd 18 F rfl rfl rfl <| F.vl (gtrF (by omega) rfl rfl) fun a F => F.vl (x_pick (b := false) rfl rfl) fun a F => F.mv rfl fun a F => s_grd 23 F rfl rfl rfl <| F.mv rfl fun a F => s_grd 23 F rfl rfl rfl <| F.vl (x_len Try.underlying22 rfl) fun a F => s_grd 23 F rfl rfl rfl <| F.vl (gtrF (by omega) rfl rfl) fun a F => F.vl (x_pick (b := false) rfl rfl) fun a F => ?_
  refine s_end (K10 _ _ ?_)
  refine wp_if F rfl ?_
  refine wp_skip (K2 _ _ ?_)
  refine wp_seq_k fun _ K11 => ?_
  refine wp_rs fun _ K12 => F.mv rfl fun a F => ?_
  obtain ⟨nA, hnA⟩ : ∃ n, n = w24.heap.size := ⟨_, rfl⟩
  refine s_appG el22 F (by decide) rfl rfl (World.ownsRow_nil _ nA _ _) (hRu.below hB) (one_rows (rows_one hlu hku)) (by omega) (by simp only [maxLen]; omega) (by omega) fun v30 w26 a hO30 hg30 hs30 F => ?_
  have B30 : Below w24.heap.size w24 w26 := grown_below hg30 (Nat.le_refl _) (fun k hk => by cases hk)
  have sB30 := B30.size
  have hB := bt hB B30
  have m3 := m3.old B30
  refine F.mv rfl fun a F => ?_
  refine s_appG el22 F (by decide) rfl rfl hO30 (hRw.below hB) (one_rows (rows_one hlw hkw)) (by omega) (by simp only [maxLen]; omega) (by omega) fun v32 w27 a hO32 hg32 hs32 F => ?_
  have B32 : Below nA w26 w27 := grown_below hg32 (by omega) (fun k hk => (hO30.lt k hk).1)
  have sB32 := B32.size
  have hB := hB.trans (B32.mono (by omega))
  have m3 := m3.below B32 (by omega)
  obtain ⟨a32, c32, hv32, _⟩ := (Rd.own hO32).form
  subst hv32
  have hR32 : Rd w27 (.slice a32 (xu ++ xw).length c32) 3 (xu ++ xw).length ((xu ++ xw).flatMap lc) := by simpa using Rd.own hO32
  rw [show 0 + xu.length + xw.length = (xu ++ xw).length by simp] at F
  refine F.vl (x_len Try.underlying22 rfl) fun a F => F.mv rfl fun a F => ?_
  refine s_end (K12 _ _ ?_)
  refine wp_block ?_
  have hXL := rows_app hlu hlw hku hkw
  have hXl : (xu ++ xw).length = (lu ++ lw).length := by simp [hlu, hlw]
  have hBb := Below.refl w27.heap.size w27
  refine wp_up (xu ++ xw).length (fun i a w => (∀ (j : Nat) l, j < i → (lu ++ lw)[j]? = some l → lv6 l) ∧ Blk w b3 27 (tc x) ∧ Below w0.heap.size w0 w ∧ Below w27.heap.size w27 w ∧ Fs 97 a [(1, .slice au xu.length cu), (2, .slice aw xw.length cw), (3, .pointer (some ⟨b3, 0, none⟩)), (32, .slice a32 (xu ++ xw).length c32), (33, .int .i64 ((xu ++ xw).length : Int)), (34, .int .i64 (i : Int))]) ⟨fun j l h => absurd h (Nat.not_lt_zero _), m3, hB, hBb, F.sub _ rfl⟩ ?_
  have hXs : (xu ++ xw).length ≤ 12 := by simp; omega
  have hb3 : w0.heap.size ≤ b3 ∧ b3 < w27.heap.size := ⟨by omega, m3.lt⟩
  repeat clear F
  clear hB m3 hBb
  rintro i a w hi ⟨h6, m3, hB, hBb, F⟩ K' hK'
  have sB := hB.size
  have sBb := hBb.size
  have hm3l := m3.lt
  refine wp_rs fun _ K13 => F.vl (x_lss (b := decide (i < (xu ++ xw).length)) (decide_eq_decide.2 (by omega)) rfl rfl) fun a F => ?_
  refine s_end (K13 _ _ ?_)
  refine wp_seq_k fun _ K14 => ?_
  refine wp_iff F rfl (fun hc35 => ?_) (fun hc35 => ?_)
  ·
   obtain ⟨b9, off9, c9, y, hve, hyi, hrow⟩ := rd_row3 hR32 (i := i) (by omega)
   cases hve
   have hi9 : i < (lu ++ lw).length := by omega
   obtain ⟨l, hli⟩ : ∃ l, (lu ++ lw)[i]? = some l := ⟨_, List.getElem?_eq_getElem hi9⟩
   have hry := hXL i y l hyi hli
   have h1y := hry.one1
   refine wp_skip (K14 _ _ ?_)
   refine wp_seq_k fun _ K15 => ?_
   refine wp_block ?_
   refine wp_rs fun _ K16 => F.vl (x_ixa rfl rfl (m_ixsK i Try.underlying22 el22.size rfl (by omega))) fun a F => F.vl (x_ldA wide24 (hrow _ hBb) rfl rfl) fun a F => ?_
   refine s_alloc F (by decide) zero24 fun w28 b8 a eb8 m8 B29 zb8 F => ?_
   have sB29 := B29.size
   have hB := bt hB B29
   have hBb := bt hBb B29
   have m3 := m3.old B29
   refine s_putW F rfl rfl (size_wide wide24) m8 rfl (one_lc h1y) fun w32 m8 o33 => ?_
   have so33 := o33.size
   have hB := hB.trans (o33.below (by omega))
   have hBb := hBb.trans (o33.below (by omega))
   have m3 := m3.only o33 (by omega)
   refine s_end (K16 _ _ ?_)
   rcases (show lv6 l ∨ ¬ lv6 l by unfold lv6; omega) with hk6 | hk6
   ·
    have hk6n : (chk 32 1048576 6 1 100 l).1 = 0 := hk6
    refine wp_rs fun _ K18 => F.vl (x_ldW wide24 m8 rfl rfl) fun a F => ?_
    refine s_callB [_, _] F E28 rfl (by decide) (rmay14 y l 6 w32 (hry.old hB)) fun w34 a B35 F => ?_
    have sB35 := B35.size
    have hB := bt hB B35
    have hBb := bt hBb B35
    have m3 := m3.old B35
    refine F.vl (neqF (by omega) rfl rfl) fun a F => ?_
    refine s_end (K18 _ _ ?_)
    refine wp_if F rfl ?_
    refine wp_skip (K15 _ _ ?_)
    refine wp_region_lit ?_
    refine F.vl (x_addn (i + 1) (by omega) (by omega) rfl rfl) fun a F => F.mv rfl fun a F => ?_
    refine s_end (hK' _ _ (by omega) ⟨fun j l9 hj e9 => by rcases Nat.lt_or_ge j i with h | h; (· exact h6 j l9 h e9); rw [show j = i by omega, hli] at e9; cases e9; exact hk6, m3, hB, hBb, F.sub _ rfl⟩)
   ·
    have hk6n : (chk 32 1048576 6 1 100 l).1 ≠ 0 := hk6
    refine wp_rs fun _ K19 => F.vl (x_ldW wide24 m8 rfl rfl) fun a F => ?_
    refine s_callB [_, _] F E28 rfl (by decide) (rmay14 y l 6 w32 (hry.old hB)) fun w36 a B37 F => ?_
    have sB37 := B37.size
    have hB := bt hB B37
    refine F.vl (neqT (by omega) rfl rfl) fun a F => ?_
    refine s_end (K19 _ _ ?_)
    refine wp_if F rfl ?_
    refine wp_rs fun _ K20 => ?_
    refine s_callB [] F E9 rfl (by decide) (awake15 w36) fun w38 a B39 F => ?_
    have sB39 := B39.size
    have hB := bt hB B39
    refine F.sg rfl fun a F => ?_
    refine s_end (K20 _ _ ?_)
    refine wp_ret (inb_ret (then_ret (then_ret (inb_ret (then_ret (res_slot F rfl rfl ⟨rfl, hB⟩))))))
  ·
   have hi9 : i = (lu ++ lw).length := by omega
   refine wp_exit (K11 _ _ ?_)
   obtain ⟨h6x, h6y⟩ : (∀ l ∈ lu, lv6 l) ∧ (∀ l ∈ lw, lv6 l) := ⟨fun l hl => by obtain ⟨j, hj, he⟩ := List.getElem_of_mem hl; exact h6 j l (by simp at hi9; omega) (by rw [List.getElem?_append_left hj, List.getElem?_eq_getElem hj, he]), fun l hl => by obtain ⟨j, hj, he⟩ := List.getElem_of_mem hl; exact h6 (lu.length + j) l (by simp at hi9; omega) (by rw [List.getElem?_append_right (by omega), Nat.add_sub_cancel_left, List.getElem?_eq_getElem hj, he])⟩
   obtain ⟨τ, hTu, htu1, htu2, htu3⟩ := mkTau hRu hlu hku h6x
   obtain ⟨σ, hTw, htw1, htw2, htw3⟩ := mkTau hRw hlw hkw h6y
   have wa := wf_of hx (allW_mem haw a0 (by simp))
   have oa := wa.ok
   have oaE := a0.ok_ess.2 oa
   have hfe := CT.fit_ess fa
   have hsl := same_self hx wa.1
   have hn6 := spH_not6 wa.1
   have hlb := okV_lvB a0 wa.1
   have fu : Fine lu τ 33554432 := ⟨fun l hl => by obtain ⟨j, hj, he⟩ := List.getElem_of_mem hl; obtain ⟨_, _, _, _, _, _, h⟩ := lv6_sl (hku j (xu[j]'(by omega)) l (List.getElem?_eq_getElem (by omega)) (by rw [← he]; exact List.getElem?_eq_getElem hj)) (h6x l hl); exact h, htu1, htu2⟩
   have fw : Fine lw σ 33554432 := ⟨fun l hl => by obtain ⟨j, hj, he⟩ := List.getElem_of_mem hl; obtain ⟨_, _, _, _, _, _, h⟩ := lv6_sl (hkw j (xw[j]'(by omega)) l (List.getElem?_eq_getElem (by omega)) (by rw [← he]; exact List.getElem?_eq_getElem hj)) (h6y l hl); exact h, htw1, htw2⟩
   refine wp_rs fun _ K21 => F.vl (x_ldW wide27 m3 rfl rfl) fun a F => ?_
   refine s_callR (R := fun u w' => ∃ y v, u = .tuple #[tv y, v] ∧ RE w' (AS (fun k => k < w.heap.size) w.heap.size) a0.spH.ess y ∧ RKE w' (AS (fun k => k < w.heap.size) w.heap.size) v (a0.spA.reverse.map CT.ess)) [_] F E21 rfl (by decide) (Spine27 (fun k => k < w.heap.size) a0 x w (fun k hk => hk) (hx.bel hB) oa) ?_
   rintro _ w40 a ⟨yh, vs9, rfl, hh, hrs⟩ B41 F
   have sB41 := B41.size
   have hB := bt hB B41
   have hBb := bt hBb B41
   have m3 := m3.old B41
   obtain ⟨ch, hch0, heh⟩ := hh
   obtain ⟨cs, hcs0, hes⟩ := hrs.rk
   have hch : RC w40 (fun k => k < w40.heap.size) ch yh := hch0.valid.mono (fun k hk => hk.2)
   have hcs : RK w40 (fun k => k < w40.heap.size) vs9 cs := RK.mono (fun k hk => hk.2) (RK.valid hcs0)
   clear hch0 hcs0 hrs
   have hBs := Below.refl w40.heap.size w40
   have sBs := hBs.size
   have hk6h : ¬ yh.k = 6 := fun h => hn6 (by rw [← kd_ess heh, ← hch.kd, h])
   have hcl : cs.length ≤ 1000000 := by have h := congrArg List.length hes; have h2 := CT.spA_len a0; have h3 := CT.spL_size a0; have h4 := oa.1; simp at h; omega
   have happ : PT.appsR ch.ess (cs.map CT.ess) = a0.ess := by unfold PT.appsR; rw [heh, hes, a0.spH_apps, if_pos oaE]
   refine F.mv rfl fun a F => F.vl (x_ext rfl rfl) fun a F => F.vl (x_ext rfl rfl) fun a F => ?_
   refine s_alloc F (by decide) zero27 fun w42 b9 a eb9 m9 B43 zb9 F => ?_
   have sB43 := B43.size
   have hB := bt hB B43
   have hBb := bt hBb B43
   have hBs := bt hBs B43
   have m3 := m3.old B43
   refine s_putW F rfl rfl (size_wide wide27) m9 rfl (RC.one hch) fun w46 m9 o47 => ?_
   have so47 := o47.size
   have hB := hB.trans (o47.below (by omega))
   have hBb := hBb.trans (o47.below (by omega))
   have hBs := hBs.trans (o47.below (by omega))
   have m3 := m3.only o47 (by omega)
   refine F.sg rfl fun a F => ?_
   refine s_end (K21 _ _ ?_)
   refine wp_seq_k fun _ K22 => ?_
   refine dk2_seq (w46.heap.size) (w46.heap.size) (ops := regOps Try.f5 10) (N := 17) (by kernel_rfl) wide_orders (by kernel_rfl) fun w48 hw48 B49 hS K23 hK23 => ?_
   have zw48 : w48.heap.size = w46.heap.size := by rw [hw48]
   have sB49 := B49.size
   have hB := bt hB B49
   have hBb := bt hBb B49
   have hBs := bt hBs B49
   have m3 := m3.old B49
   have m9 := m9.old B49
   have m3_d := m3
   have m9_d := m9
   have hB_d := hB
   have hBb_d := hBb
   have hBs_d := hBs
   refine F.dv 0 48 (.load 27 (.tmp 9)) hS (fun W hW => x_ldW wide27 (m9_d.k2 hW (by omega)) rfl rfl) fun a F => F.dv 1 49 (.move (.tmp 10)) hS (fun W hW => x_move rfl) fun a F => F.dv 3 51 (.load 27 (.tmp 3)) hS (fun W hW => x_ldW wide27 (m3_d.k2 hW (by omega)) rfl rfl) fun a F => ?_
   refine d1 2 (some 50) (.call (.mk (.value (.func 18)) #[(.tmp 48), (.tmp 49)] #[27, 25])) fun ty pos af => ?_
   refine s_callR (R := fun u w' => ∃ y, u = tv y ∧ RE w' (AS (fun k => k < w48.heap.size) w48.heap.size) (PT.appsR ch.ess (cs.map CT.ess)) y) [_, _] F E18 rfl (by decide) (Apps24t (fun k => k < w48.heap.size) ch yh cs vs9 w48 (fun k hk => hk) (hch.bel hBs) (RK.bel hBs hcs) hcl) ?_
   rintro _ w50 a ⟨yp, rfl, hpp⟩ B51 F
   have sB51 := B51.size
   have hB := bt hB B51
   have m3 := m3.old B51
   have hS := hS.below B51
   rw [happ] at hpp
   obtain ⟨cp, hcp0, hep⟩ := hpp
   have hcp : RC w50 (fun k => k < w50.heap.size) cp yp := hcp0.valid.mono (fun k hk => hk.2)
   have hBp := Below.refl w50.heap.size w50
   have sBp := hBp.size
   have okp : cp.ok := cp.ok_ess.1 (by rw [hep]; exact oaE)
   refine s_end ⟨hS, ?_⟩
   refine d1 4 (some 52) (.call (.mk (.value (.func 29)) #[(.tmp 50), (.tmp 51)] #[27, 27])) fun ty pos af => ?_
   refine s_callB [_, _] F E29 rfl (by decide) ((Same40 cp a0 yp x w50 (hcp.bel hBp) (hx.bel hB) (by rw [hep]; exact hfe)).mono fun e w' ⟨z, h1, ⟨b, h2, h3⟩, h4⟩ => ⟨by rw [h1, h2, h3.2 ⟨okp, oa, by rw [hep]; exact hsl⟩], h4⟩) fun w52 a B53 F => ?_
   have sB53 := B53.size
   have hB := bt hB B53
   have m3 := m3.old B53
   have hS := hS.below B53
   refine s_end ⟨hS, ?_⟩
   refine F.dv 5 53 (.unOp .not 4 (.tmp 52)) hS (fun W hW => x_not rfl) fun a F => F.dv 6 54 (.move (.tmp 53)) hS (fun W hW => x_move rfl) fun a F => F.dg 7 55 54 6 false (.fieldAddr 27 (.tmp 9) 0) hS rfl (fun W hW => x_fa0 fa27_0 rfl) fun a F => F.dg 8 56 54 6 false (.load 3 (.tmp 55)) hS rfl (fun W hW => x_load rfl (m_load flat3 ((m9_d.k2 hW (by omega)).cell (j := 0) rfl))) fun a F => F.dg 9 57 54 6 false (.binOp .eql 3 (.tmp 56) (.const (.int .i64 6)) 3) hS rfl (fun W hW => x_eql (b := false) (decide_eq_false hk6h) rfl rfl) fun a F => F.dv 10 58 (.pick (.tmp 54) (.const (.bool true)) (.tmp 57)) hS (fun W hW => x_pick (b := false) rfl rfl) fun a F => F.dv 11 59 (.move (.tmp 58)) hS (fun W hW => x_move rfl) fun a F => F.dg 12 60 59 11 false (.load 27 (.tmp 3)) hS rfl (fun W hW => x_ldW wide27 (m3_d.k2 hW (by omega)) rfl rfl) fun a F => F.dg 13 61 59 11 false (.load 27 (.tmp 3)) hS rfl (fun W hW => x_ldW wide27 (m3_d.k2 hW (by omega)) rfl rfl) fun a F => ?_
   refine d_oneg 14 59 (some 62) (.call (.mk (.value (.func 29)) #[(.tmp 60), (.tmp 61)] #[27, 27])) (j := 11) (want := false) F (by kernel_rfl) (by kernel_rfl) (by kernel_rfl) rfl fun ty pos af => ?_
   refine s_callB [_, _] F E29 rfl (by decide) ((Same40 a0 a0 x x w52 (hx.bel hB) (hx.bel hB) (hfe)).mono fun e w' ⟨z, h1, ⟨b, h2, h3⟩, h4⟩ => ⟨by rw [h1, h2, h3.2 ⟨oa, oa, hsl⟩], h4⟩) fun w54 a B55 F => ?_
   have sB55 := B55.size
   have hB := bt hB B55
   have m3 := m3.old B55
   have hS := hS.below B55
   refine s_end ⟨hS, ?_⟩
   refine F.dg 15 63 59 11 false (.unOp .not 4 (.tmp 62)) hS rfl (fun W hW => x_not rfl) fun a F => F.dv 16 64 (.pick (.tmp 59) (.const (.bool true)) (.tmp 63)) hS (fun W hW => x_pick (b := false) rfl rfl) fun a F => ?_
   refine d_end (by kernel_rfl) (hK23 _ _ ?_)
   refine wp_if F rfl ?_
   refine wp_skip (K22 _ _ ?_)
   refine wp_rs fun _ K24 => F.sg rfl fun a F => ?_
   refine s_end (K24 _ _ ?_)
   refine wp_seq_k fun _ K25 => ?_
   refine wp_rs fun _ K26 => F.mv rfl fun a F => ?_
   refine s_end (K26 _ _ ?_)
   refine wp_block ?_
   obtain ⟨nB, hnB⟩ : ∃ n, n = w54.heap.size := ⟨_, rfl⟩
   have hm3l := m3.lt
   have hb3n : w0.heap.size ≤ b3 ∧ b3 < nB := ⟨by omega, by omega⟩
   refine wp_up 6 (fun i a w => ∃ v' zs ls', w.ownsRow nB 24 3 v' zs.length (zs.flatMap lc) ∧ QL w (fun k => (nB ≤ k ∧ v'.ownBlock ≠ some k) ∧ k < w.heap.size) zs ls' ∧ ls'.length = i ∧ (∀ (j : Nat) l, ls'[j]? = some l → slO l = some (iS (τ j) σ)) ∧ Blk w b3 27 (tc x) ∧ Below w0.heap.size w0 w ∧ Below nB w54 w ∧ Fs 97 a [(1, .slice au xu.length cu), (2, .slice aw xw.length cw), (3, .pointer (some ⟨b3, 0, none⟩)), (11, v'), (65, .int .i64 (i : Int))]) ⟨_, [], [], World.ownsRow_nil _ _ _ _, QL.nil, rfl, (fun j l h => by simp at h), m3, hB, by rw [hnB]; exact Below.refl _ _, F.sub _ rfl⟩ ?_
   repeat clear F
   clear hB m3
   rintro i a w hi ⟨vv, zs, ls2, hO, hP, hl2, hcp2, m3, hB, hBn, F⟩ K' hK'
   have sB := hB.size
   have sBn := hBn.size
   obtain ⟨top, htop⟩ : ∃ h, h = w.heap.size := ⟨_, rfl⟩
   rw [← htop] at hP
   have hPl := hP.1
   have hOt : ∀ j, vv.ownBlock = some j → nB ≤ j ∧ j < top := fun j h => by rw [htop]; exact hO.lt j h
   have h1vv := (Rd.own hO).one
   have hm3l := m3.lt
   refine wp_rs fun _ K27 => F.vl (x_lss (b := decide (i < 6)) (decide_eq_decide.2 (by omega)) rfl rfl) fun a F => ?_
   refine s_end (K27 _ _ ?_)
   refine wp_seq_k fun _ K28 => ?_
   refine wp_iff F rfl (fun hc66 => ?_) (fun hc66 => ?_)
   ·
    skip
    refine wp_skip (K28 _ _ ?_)
    refine wp_seq_k fun _ K29 => ?_
    refine wp_block ?_
    refine wp_rs fun _ K30 => F.mv rfl fun a F => F.sg rfl fun a F => ?_
    refine s_end (K30 _ _ ?_)
    refine wp_rs fun _ K31 => F.mv rfl fun a F => F.vl (x_build (vs := [(0, _), (1, _)]) rfl (b24_01 _ _ _)) fun a F => ?_
    refine s_alloc F (by decide) zero24 fun w56 b13 a eb13 m13 B57 zb13 F => ?_
    have sB57 := B57.size
    have hB := bt hB B57
    have hP := hP.below B57
    have m3 := m3.old B57
    have hO := own_below hO B57
    have hBn := hBn.trans (B57.mono (by omega))
    refine s_putW F rfl rfl (size_wide wide24) m13 rfl (by simp [Value.oneCell']) fun w60 m13 o61 => ?_
    have so61 := o61.size
    have hB := hB.trans (o61.below (by omega))
    have hP := hP.only o61 (fun k (hk : (nB ≤ k ∧ vv.ownBlock ≠ some k) ∧ k < top) => by omega)
    have m3 := m3.only o61 (by omega)
    have hO := own_only hO o61 (fun e => by have := hOt _ e; omega)
    have hBn := hBn.trans (o61.below (by omega))
    refine s_end (K31 _ _ ?_)
    refine wp_seq_k fun _ K32 => ?_
    refine wp_rs fun _ K33 => F.mv rfl fun a F => F.mv rfl fun a F => F.vl (x_len Try.underlying22 rfl) fun a F => F.vl (x_lss (b := decide (i < xu.length)) (decide_eq_decide.2 (by omega)) rfl rfl) fun a F => ?_
    refine s_end (K33 _ _ ?_)
    refine wp_iff F rfl (fun hc73 => ?_) (fun hc73 => ?_)
    ·
     obtain ⟨b9, off9, c9, y, hve, hyi, hrow⟩ := rd_row3 hRu (i := i) (by omega)
     cases hve
     have hi9 : i < lu.length := by omega
     obtain ⟨l, hli⟩ : ∃ l, lu[i]? = some l := ⟨_, List.getElem?_eq_getElem hi9⟩
     have hry := hku i y l hyi hli
     have h1y := hry.one1
     have hsO := htu3 i l hli
     have hryw := hry
     refine wp_region_lit ?_
     refine F.mv rfl fun a F => F.mv rfl fun a F => F.vl (x_ixa rfl rfl (m_ixsK i Try.underlying22 el22.size rfl (by omega))) fun a F => F.vl (x_ldA wide24 (hrow _ hB) rfl rfl) fun a F => ?_
     refine s_putW F rfl rfl (size_wide wide24) m13 rfl (one_lc h1y) fun w64 m13 o65 => ?_
     have so65 := o65.size
     have hB := hB.trans (o65.below (by omega))
     have hP := hP.only o65 (fun k (hk : (nB ≤ k ∧ vv.ownBlock ≠ some k) ∧ k < top) => by omega)
     have m3 := m3.only o65 (by omega)
     have hO := own_only hO o65 (fun e => by have := hOt _ e; omega)
     have hBn := hBn.trans (o65.below (by omega))
     refine s_end (K32 _ _ ?_)
     refine wp_region_lit ?_
     refine F.mv rfl fun a F => F.vl (x_ldW wide24 m13 rfl rfl) fun a F => F.mv rfl fun a F => ?_
     have hfin := iS_fine fw (S := 33554432) (by decide) (htu1 i) (htu2 i (by omega)) (by decide)
     refine s_callR (R := fun u w' => ∃ z l', u = lv z ∧ RLx w' (fun k => w64.heap.size ≤ k) z l' ∧ slO l' = instO lw σ (slO l)) [_, _] F E30 rfl (by decide) (rInst53n y l _ xw lw σ w64 (hryw.old hB) (hTw.bel hB)) ?_
     rintro _ w66 a ⟨z, l2, rfl, hz0, hcz⟩ B67 F
     have sB67 := B67.size
     have hB := bt hB B67
     have hP := hP.below B67
     have m3 := m3.old B67
     have hO := own_below hO B67
     have hBn := hBn.trans (B67.mono (by omega))
     rw [hsO, hfin.1] at hcz
     have hz : RLx w66 (fun k => w64.heap.size ≤ k ∧ k < w66.heap.size) z l2 := hz0.valid
     clear hz0
     have h1z := hz.rl.one1
     refine s_litG [lv z] el22 F (by decide) rfl (by simp [Value.cells, lc]) rfl (by decide) (by decide) fun w68 bl a ebl ml B69 zbl F => ?_
     have sB69 := B69.size
     have hB := bt hB B69
     have hP := hP.below B69
     have m3 := m3.old B69
     have hO := own_below hO B69
     have hz := hz.below B69
     have hBn := hBn.trans (B69.mono (by omega))
     have ml : Blk w68 bl 24 (lc z) := by simpa [Value.cells] using ml
     obtain ⟨o2, hat, hob, hos, hno⟩ : ∃ o, (∀ j, vv.ownBlock = some j → j = o) ∧ nB ≤ o ∧ o < w64.heap.size ∧ (∀ k, k < top → vv.ownBlock ≠ some k → k ≠ o) := by
      cases hv9 : vv.ownBlock with
      | none => exact ⟨b13, (fun j h => by cases h), by omega, by omega, fun k hk _ => by omega⟩
      | some j => exact ⟨j, (fun i h => by cases h; rfl), (hOt j hv9).1, by have := hOt j hv9; omega, (fun k _ hk e => hk (by rw [e]))⟩
     have hP : QL w68 (fun k => nB ≤ k ∧ k ≠ o2 ∧ k < top) zs ls2 := hP.mono (fun k hk => ⟨hk.1.1, hno k hk.2 hk.1.2, hk.2⟩)
     refine s_appL (o := o2) el22 F (by decide) rfl rfl hO ml rfl (one_lc h1z) hat (by omega) (by omega) (by decide) (by omega) fun v3 w70 a o3 hOn hOatn how hsrc k71 hkeep F => ?_
     have sk71 := k71.size
     have hB := k71.under hB (by omega)
     have hP := hP.k2 k71 (fun k (hk : nB ≤ k ∧ k ≠ o2 ∧ k < top) => by omega)
     have m3 := m3.k2 k71 (by omega)
     have hz := hz.k2 k71 (fun k (hk : w64.heap.size ≤ k ∧ k < w66.heap.size) => by omega)
     have hO := hOn
     have hO_at := hOatn
     have hBn := below_k2 hBn k71 (by omega)
     refine F.sg rfl fun a F => ?_
     refine s_end (K29 _ _ ?_)
     refine wp_region_lit ?_
     refine F.vl (x_addn (i + 1) (by omega) (by omega) rfl rfl) fun a F => F.mv rfl fun a F => ?_
     refine s_end (hK' _ _ (by omega) ⟨v3, zs ++ [z], ls2 ++ [l2], by rw [fm3_app]; simpa using hO, ((hP.mono (fun k (hk : nB ≤ k ∧ k ≠ o2 ∧ k < top) => ⟨⟨hk.1, fun e => by have := hO_at k e; omega⟩, by omega⟩)).snoc (hz.mono (fun k (hk : w64.heap.size ≤ k ∧ k < w66.heap.size) => ⟨⟨by omega, fun e => by have := hO_at k e; omega⟩, by omega⟩))), by simp [hl2], (fun j l9 e9 => by rcases Nat.lt_or_ge j ls2.length with hj | hj; (· rw [List.getElem?_append_left hj] at e9; exact hcp2 j l9 e9); rw [List.getElem?_append_right hj] at e9; have h0 : j - ls2.length = 0 := (by have := (List.getElem?_eq_some_iff.1 e9).1; simp at this; omega); rw [h0] at e9; simp at e9; subst e9; rw [show j = i by omega]; exact hcz), m3, hB, hBn, F.sub _ rfl⟩)
    ·
     obtain ⟨y, hye⟩ : ∃ y : C3, y = (2, (i : Int), nilS) := ⟨_, rfl⟩
     have hti : τ i = .var i := hTu.ht2 i (by omega)
     have hryw : RL w0 y (.mk 2 i []) := by rw [hye]; exact .mk (xs := []) (Rd.nil _ _) rfl (fun j x l h => by simp at h)
     have hsO : slO (.mk 2 (i : Int) []) = some (τ i) := by rw [hti]; exact slO_of hryw (by rw [hye]; exact ⟨rfl, rfl, Rd.nil _ _⟩) ⟨by simp [SL.size], by simp [SL.dep], show i < 1001 by omega⟩
     obtain ⟨l, hle⟩ : ∃ l, l = Lv.mk 2 (i : Int) [] := ⟨_, rfl⟩
     rw [← hle] at hryw hsO
     rw [show ([Value.int .i64 2, Value.int .i64 (i : Int), nilS] : List Value) = lc y by rw [hye]; rfl] at m13
     refine wp_skip (K32 _ _ ?_)
     refine wp_region_lit ?_
     refine F.mv rfl fun a F => F.vl (x_ldW wide24 m13 rfl rfl) fun a F => F.mv rfl fun a F => ?_
     have hfin := iS_fine fw (S := 33554432) (by decide) (htu1 i) (htu2 i (by omega)) (by decide)
     refine s_callR (R := fun u w' => ∃ z l', u = lv z ∧ RLx w' (fun k => w60.heap.size ≤ k) z l' ∧ slO l' = instO lw σ (slO l)) [_, _] F E30 rfl (by decide) (rInst53n y l _ xw lw σ w60 (hryw.old hB) (hTw.bel hB)) ?_
     rintro _ w72 a ⟨z, l2, rfl, hz0, hcz⟩ B73 F
     have sB73 := B73.size
     have hB := bt hB B73
     have hP := hP.below B73
     have m3 := m3.old B73
     have hO := own_below hO B73
     have hBn := hBn.trans (B73.mono (by omega))
     rw [hsO, hfin.1] at hcz
     have hz : RLx w72 (fun k => w60.heap.size ≤ k ∧ k < w72.heap.size) z l2 := hz0.valid
     clear hz0
     have h1z := hz.rl.one1
     refine s_litG [lv z] el22 F (by decide) rfl (by simp [Value.cells, lc]) rfl (by decide) (by decide) fun w74 bl a ebl ml B75 zbl F => ?_
     have sB75 := B75.size
     have hB := bt hB B75
     have hP := hP.below B75
     have m3 := m3.old B75
     have hO := own_below hO B75
     have hz := hz.below B75
     have hBn := hBn.trans (B75.mono (by omega))
     have ml : Blk w74 bl 24 (lc z) := by simpa [Value.cells] using ml
     obtain ⟨o2, hat, hob, hos, hno⟩ : ∃ o, (∀ j, vv.ownBlock = some j → j = o) ∧ nB ≤ o ∧ o < w60.heap.size ∧ (∀ k, k < top → vv.ownBlock ≠ some k → k ≠ o) := by
      cases hv9 : vv.ownBlock with
      | none => exact ⟨b13, (fun j h => by cases h), by omega, by omega, fun k hk _ => by omega⟩
      | some j => exact ⟨j, (fun i h => by cases h; rfl), (hOt j hv9).1, by have := hOt j hv9; omega, (fun k _ hk e => hk (by rw [e]))⟩
     have hP : QL w74 (fun k => nB ≤ k ∧ k ≠ o2 ∧ k < top) zs ls2 := hP.mono (fun k hk => ⟨hk.1.1, hno k hk.2 hk.1.2, hk.2⟩)
     refine s_appL (o := o2) el22 F (by decide) rfl rfl hO ml rfl (one_lc h1z) hat (by omega) (by omega) (by decide) (by omega) fun v3 w76 a o3 hOn hOatn how hsrc k77 hkeep F => ?_
     have sk77 := k77.size
     have hB := k77.under hB (by omega)
     have hP := hP.k2 k77 (fun k (hk : nB ≤ k ∧ k ≠ o2 ∧ k < top) => by omega)
     have m3 := m3.k2 k77 (by omega)
     have hz := hz.k2 k77 (fun k (hk : w60.heap.size ≤ k ∧ k < w72.heap.size) => by omega)
     have hO := hOn
     have hO_at := hOatn
     have hBn := below_k2 hBn k77 (by omega)
     refine F.sg rfl fun a F => ?_
     refine s_end (K29 _ _ ?_)
     refine wp_region_lit ?_
     refine F.vl (x_addn (i + 1) (by omega) (by omega) rfl rfl) fun a F => F.mv rfl fun a F => ?_
     refine s_end (hK' _ _ (by omega) ⟨v3, zs ++ [z], ls2 ++ [l2], by rw [fm3_app]; simpa using hO, ((hP.mono (fun k (hk : nB ≤ k ∧ k ≠ o2 ∧ k < top) => ⟨⟨hk.1, fun e => by have := hO_at k e; omega⟩, by omega⟩)).snoc (hz.mono (fun k (hk : w60.heap.size ≤ k ∧ k < w72.heap.size) => ⟨⟨by omega, fun e => by have := hO_at k e; omega⟩, by omega⟩))), by simp [hl2], (fun j l9 e9 => by rcases Nat.lt_or_ge j ls2.length with hj | hj; (· rw [List.getElem?_append_left hj] at e9; exact hcp2 j l9 e9); rw [List.getElem?_append_right hj] at e9; have h0 : j - ls2.length = 0 := (by have := (List.getElem?_eq_some_iff.1 e9).1; simp at this; omega); rw [h0] at e9; simp at e9; subst e9; rw [show j = i by omega]; exact hcz), m3, hB, hBn, F.sub _ rfl⟩)
   ·
    obtain rfl : i = 6 := by omega
    have hBo := Below.refl w.heap.size w
    have sBo := hBo.size
    have hPr : ∀ (j : Nat) z l, zs[j]? = some z → ls2[j]? = some l → RL w z l := fun j z l e1 e2 => (hP.2 j z l e1 e2).rl
    obtain ⟨β, hβ1, hβ2⟩ : ∃ β : Nat → SL, (∀ j, j < 6 → β j = iS (τ j) σ) ∧ (∀ j, 6 ≤ j → β j = .var j) := ⟨fun j => if j < 6 then iS (τ j) σ else .var j, fun j hj => if_pos hj, fun j hj => if_neg (by omega)⟩
    have hβs : ∀ (j : Nat) l, ls2[j]? = some l → slO l = some (β j) := fun j l e => by rw [hβ1 j (by have := (List.getElem?_eq_some_iff.1 e).1; omega)]; exact hcp2 j l e
    have hlz : zs.length = 6 := by omega
    obtain ⟨av3, cv3, hvv3, _⟩ := (Rd.own hO).form
    subst hvv3
    have hTb : Tau w (.slice av3 zs.length cv3) zs ls2 β := ⟨Rd.own hO, by omega, hPr, (fun j z l e1 e2 _ => ⟨(slO_some (hPr j z l e1 e2) (hβs j l e2)).2.1, (slO_some (hPr j z l e1 e2) (hβs j l e2)).2.2⟩), fun j hj => hβ2 j (by omega)⟩
    have hbs : ∀ l ∈ ls2, sndL l := fun l hl => by obtain ⟨j, hj, he⟩ := List.getElem_of_mem hl; exact (slO_some (hPr j (zs[j]'(by omega)) l (List.getElem?_eq_getElem (by omega)) (by rw [← he]; exact List.getElem?_eq_getElem hj)) (hβs j l (by rw [← he]; exact List.getElem?_eq_getElem hj))).1
    have htwo := instL_two (lb := ls2) fu fw hbs hβ1 (fun j hj => ⟨hβ2 j hj, hTu.ht2 j (by omega), hTw.ht2 j (by omega)⟩) a0 x hx wa.1
    refine wp_exit (K25 _ _ ?_)
    refine dk2_seq (w.heap.size) (w.heap.size) (ops := regOps Try.f5 21) (N := 13) (by kernel_rfl) wide_orders (by kernel_rfl) fun w78 hw78 B79 hS K34 hK34 => ?_
    have zw78 : w78.heap.size = w.heap.size := by rw [hw78]
    have sB79 := B79.size
    have hB := bt hB B79
    have hBo := bt hBo B79
    have hP := hP.below B79
    have m3 := m3.old B79
    have hP_d := hP
    have m3_d := m3
    have hB_d := hB
    have hBo_d := hBo
    refine F.dv 0 85 (.load 27 (.tmp 3)) hS (fun W hW => x_ldW wide27 (m3_d.k2 hW (by omega)) rfl rfl) fun a F => F.dv 1 86 (.move (.tmp 1)) hS (fun W hW => x_move rfl) fun a F => F.dv 3 88 (.move (.tmp 2)) hS (fun W hW => x_move rfl) fun a F => F.dv 5 90 (.load 27 (.tmp 3)) hS (fun W hW => x_ldW wide27 (m3_d.k2 hW (by omega)) rfl rfl) fun a F => F.dv 6 91 (.move (.tmp 11)) hS (fun W hW => x_move rfl) fun a F => ?_
    refine d1 2 (some 87) (.call (.mk (.value (.func 25)) #[(.tmp 85), (.tmp 86)] #[27, 22])) fun ty pos af => ?_
    refine s_callR (R := fun u w' => ∃ y, u = tv y ∧ RT w' (if a0.ok then a0.ess.instL lu τ else .odd 0) y) [_, _] F E25 rfl (by decide) (InstLevels44 a0 x _ _ lu τ w78 (hx.bel hB) hlb (hTu.bel hB)) ?_
    rintro _ w80 a ⟨yp9, rfl, hp9⟩ B81 F
    have sB81 := B81.size
    have hB := bt hB B81
    have hBo := bt hBo B81
    have hS := hS.below B81
    obtain ⟨cp9, hcp9, hep9⟩ := hp9
    rw [if_pos oa] at hep9
    have okp9 : cp9.ok := cp9.ok_ess.1 (by rw [hep9]; exact instL_ok.2 oaE)
    have lbp9 : cp9.lvB := (lvP_ess cp9).1 (by rw [hep9]; exact (instL_keeps _ _ _).2.2.1.2 ((lvP_ess a0).2 hlb))
    have hBp9 := Below.refl w80.heap.size w80
    have sBp9 := hBp9.size
    refine s_end ⟨hS, ?_⟩
    refine d1 4 (some 89) (.call (.mk (.value (.func 25)) #[(.tmp 87), (.tmp 88)] #[27, 22])) fun ty pos af => ?_
    refine s_callR (R := fun u w' => ∃ y, u = tv y ∧ RT w' (if cp9.ok then cp9.ess.instL lw σ else .odd 0) y) [_, _] F E25 rfl (by decide) (InstLevels44 cp9 yp9 _ _ lw σ w80 (hcp9.bel hBp9) lbp9 (hTw.bel hB)) ?_
    rintro _ w82 a ⟨yq, rfl, hq⟩ B83 F
    have sB83 := B83.size
    have hB := bt hB B83
    have hBo := bt hBo B83
    have hS := hS.below B83
    obtain ⟨cq, hcq, heq⟩ := hq
    rw [if_pos okp9] at heq
    have hBq := Below.refl w82.heap.size w82
    have sBq := hBq.size
    refine s_end ⟨hS, ?_⟩
    refine d1 7 (some 92) (.call (.mk (.value (.func 25)) #[(.tmp 90), (.tmp 91)] #[27, 22])) fun ty pos af => ?_
    refine s_callR (R := fun u w' => ∃ y, u = tv y ∧ RT w' (if a0.ok then a0.ess.instL ls2 β else .odd 0) y) [_, _] F E25 rfl (by decide) (InstLevels44 a0 x _ _ ls2 β w82 (hx.bel hB) hlb (hTb.bel hBo)) ?_
    rintro _ w84 a ⟨yr, rfl, hr⟩ B85 F
    have sB85 := B85.size
    have hB := bt hB B85
    have hBq := bt hBq B85
    have hS := hS.below B85
    obtain ⟨cr, hcr, her⟩ := hr
    rw [if_pos oa] at her
    have hBr := Below.refl w84.heap.size w84
    have sBr := hBr.size
    refine s_end ⟨hS, ?_⟩
    refine d1 8 (some 93) (.call (.mk (.value (.func 29)) #[(.tmp 89), (.tmp 92)] #[27, 27])) fun ty pos af => ?_
    refine s_callB [_, _] F E29 rfl (by decide) ((Same40 cq cr yq yr w84 (hcq.bel hBq) (hcr.bel hBr) (by rw [heq, hep9]; exact ((instL_keeps _ _ _).2.2.2.2 ((instL_keeps _ _ _).2.2.2.2 hfe)))).mono fun e w' ⟨z, h1, ⟨b, h2, h3⟩, h4⟩ => ⟨by rw [h1, h2, h3.2 ⟨cq.ok_ess.1 (by rw [heq, hep9]; exact instL_ok.2 (instL_ok.2 oaE)), cr.ok_ess.1 (by rw [her]; exact instL_ok.2 oaE), by rw [heq, hep9, her]; exact htwo⟩], h4⟩) fun w86 a B87 F => ?_
    have sB87 := B87.size
    have hB := bt hB B87
    have hS := hS.below B87
    refine s_end ⟨hS, ?_⟩
    refine F.dv 9 94 (.move (.tmp 93)) hS (fun W hW => x_move rfl) fun a F => ?_
    refine d_oneg 10 94 (some 95) (.call (.mk (.value (.func 9)) #[] #[])) (j := 9) (want := true) F (by kernel_rfl) (by kernel_rfl) (by kernel_rfl) rfl fun ty pos af => ?_
    refine s_callB [] F E9 rfl (by decide) (awake15 w86) fun w88 a B89 F => ?_
    have sB89 := B89.size
    have hB := bt hB B89
    have hS := hS.below B89
    refine s_end ⟨hS, ?_⟩
    refine F.dv 11 96 (.pick (.tmp 94) (.tmp 95) (.const (.bool false))) hS (fun W hW => x_pick (b := true) rfl rfl) fun a F => F.dv 12 6 (.assign (.tmp 96)) hS (fun W hW => x_assign rfl) fun a F => ?_
    refine d_end (by kernel_rfl) (hK34 _ _ ?_)
    refine wp_ret (res_slot F rfl rfl ⟨rfl, hB⟩)
end Go.Proofs.Ytbhhbfdoadecgaa

namespace Go.Proofs.Ytbhhbfdoadecgaa
open Go.RowKit Go.Shelf Go.ChangeShapes Go.WideShapes
set_option linter.unusedVariables false
set_option linter.unusedSimpArgs false
section
variable {α : Type} {encA : α → List Value} {k : Nat}
theorem gfm_len : ∀ (xs : List α), (∀ x ∈ xs, (encA x).length = k) → (xs.flatMap encA).length = xs.length * k
 | [], _ => by simp
 | x :: xs, h => by
  rw [List.flatMap_cons, List.length_append, h x (by simp), gfm_len xs (fun y hy => h y (by simp [hy])), List.length_cons, Nat.succ_mul, Nat.add_comm]
theorem gfm_inv (hk : 0 < k) : ∀ (xs : List α) (j : Nat) (u : Value), (∀ x ∈ xs, (encA x).length = k) → (xs.flatMap encA)[j]? = some u → ∃ x, xs[j / k]? = some x ∧ (encA x)[j % k]? = some u
 | [], j, u, _, h => by simp at h
 | c :: xs, j, u, h32, h => by
  have h0 : (encA c).length = k := h32 c (by simp)
  rw [List.flatMap_cons] at h
  by_cases hj : j < k
  ·
   rw [List.getElem?_append_left (by omega)] at h
   exact ⟨c, by rw [Nat.div_eq_of_lt hj]; rfl, by rw [Nat.mod_eq_of_lt hj]; exact h⟩
  ·
   rw [List.getElem?_append_right (by omega), h0] at h
   obtain ⟨x, h1, h2⟩ := gfm_inv hk xs (j - k) u (fun y hy => h32 y (by simp [hy])) h
   have hkj : k ≤ j := by omega
   have e1 : j / k = (j - k) / k + 1 := Nat.div_eq_sub_div hk hkj
   have e2 : j % k = (j - k) % k := Nat.mod_eq_sub_mod hkj
   exact ⟨x, by rw [e1]; simpa using h1, by rw [e2]; exact h2⟩
end
end Go.Proofs.Ytbhhbfdoadecgaa

namespace Go.Proofs.Ytbhhbfdoadecgaa
open Go.RowKit Go.Shelf Go.ChangeShapes Go.WideShapes
set_option maxRecDepth 100000
set_option linter.unusedVariables false
set_option linter.unusedSimpArgs false
theorem cells24 : Try.prog.cellsOf 24 = 3 := by kernel_rfl
theorem cells3 : Try.prog.cellsOf 3 = 1 := by kernel_rfl
theorem cells22 : Try.prog.cellsOf 22 = 1 := by kernel_rfl
theorem okWide_str {P : Program} {w : World} {r : Reach} {base : Nat} {t : TypeId} {v : Value} {fs : Array Field} (ht : P.underlying t = some (.struct fs)) (h : Value.okWide P w r base t v) : ∃ cs, v = .agg cs ∧ cs.size = P.cellsOf t := by
 unfold Value.okWide at h
 rw [ht] at h
 obtain ⟨cs, h1, h2, _⟩ := h
 exact ⟨cs, h1, h2⟩
section
variable {H : Type} {enc : TypeId × Value → H} {w : World} {base : Nat} {spare : Nat → Bool} {held : Bool}
/-- A slice of levels, out of what its elements tell. -/
theorem open_lrow {n : Nat} {cs : List Value} {x : DataW H × List MemPlace} (good : C3 → Prop) (tell : ∀ m, m < n → ∀ cs' y, DataW.trod enc Try.prog w base spare held m 24 cs' = some y → ∃ c, good c ∧ cs' = lc c)
    (h : DataW.trod enc Try.prog w base spare held n 22 cs = some x) : ∃ a len cap, cs = [.slice a len cap] ∧ ∃ xs : List C3, Rd w (.slice a len cap) 3 xs.length (xs.flatMap lc) ∧ (∀ x ∈ xs, good x) ∧ xs.length ≤ 9223372036854775807 := by
  rcases DataW.trod_slice Try.underlying22 h with ⟨rfl, _⟩ | ⟨a, len, cap, elems, rest, m, hfu, rfl, _, _, hl, hm, hlen, hel, _, _⟩
  · exact ⟨none, 0, 0, rfl, [], Rd.nil _ _, by simp, by simp⟩
  · refine ⟨some a, len, cap, rfl, ?_⟩
    have one : ∀ i, i < len → ∃ d : C3, good d ∧ ∀ (j : Nat) u, (lc d)[j]? = some u → w.cell? ((a.add (i * 3)).add j) = some u := by
      intro i hil
      have h1 := hel i hil
      rw [List.getElem?_eq_getElem (by omega)] at h1
      obtain ⟨cs', hc', ht'⟩ := Option.bind_eq_some_iff.1 h1
      rw [cells24] at hc'
      obtain ⟨_, hcl, hat⟩ := World.cells?_some hc'
      obtain ⟨d, hd, rfl⟩ := tell m (by omega) _ _ ht'
      refine ⟨d, hd, fun j u hj => ?_⟩
      have hjl : j < 3 := (List.getElem?_eq_some_iff.1 hj).1
      have h2 := hat j (by omega)
      rw [h2, hj]
    have hml : len ≤ 9223372036854775807 := by unfold maxLen at hm; omega
    by_cases h0 : len = 0
    · subst h0
      exact ⟨[], ⟨by simp, .inl ⟨_, _, rfl, rfl, fun h => by cases h⟩⟩, by simp, by simp⟩
    · obtain ⟨b, off, spot⟩ := a
      obtain ⟨d0, hd0, hx0⟩ := one 0 (by omega)
      have hc0 := hx0 0 _ (List.getElem?_eq_getElem (show 0 < (lc d0).length by simp [lc]))
      have hspot : spot = none := by simpa [Addr.add] using World.cell?_spot hc0
      subst hspot
      have hb : b < w.heap.size := by
        have := World.block_lt_of_cell? w _ hc0
        rwa [addr_addn, addr_addn] at this
      have all : ∀ q, q ≤ len → ∃ ds : List C3, ds.length = q ∧ (∀ d ∈ ds, good d) ∧ ∀ i d, ds[i]? = some d → ∀ (j : Nat) u, (lc d)[j]? = some u → w.cell? ⟨b, off + i * 3 + j, none⟩ = some u := by
        intro q
        induction q with
        | zero => exact fun _ => ⟨[], rfl, by simp, by simp⟩
        | succ q ih =>
          intro hq
          obtain ⟨ds, h1, h2, h3⟩ := ih (by omega)
          obtain ⟨d, hd, hx⟩ := one q (by omega)
          refine ⟨ds ++ [d], by simp [h1], fun e he => ?_, fun i e he j u hj => ?_⟩
          · rcases List.mem_append.1 he with he | he
            · exact h2 e he
            · simp at he; subst he; exact hd
          · rw [List.getElem?_append] at he
            split at he
            · exact h3 i e he j u hj
            · next hge =>
              have hik : i = q := by
                have := (List.getElem?_eq_some_iff.1 he).1
                simp at this
                omega
              subst hik
              simp [h1] at he
              subst he
              have := hx j u hj
              rwa [addr_addn, addr_addn] at this
      obtain ⟨ds, h1, h2, h3⟩ := all len (Nat.le_refl _)
      refine ⟨ds, ⟨gfm_len (k := 3) ds (fun d hd => by simp [lc]), .inr ⟨b, off, cap, by rw [h1], by omega, hb, fun j u hj => ?_⟩⟩, h2, by omega⟩
      obtain ⟨d, e1, e2⟩ := gfm_inv (k := 3) (by decide) ds j u (fun d hd => by simp [lc]) hj
      have := h3 _ d e1 _ u e2
      have hdm := Nat.div_add_mod j 3
      rwa [show off + j / 3 * 3 + j % 3 = off + j by omega] at this
theorem rl_list {W : World} : ∀ (xs : List C3), (∀ x ∈ xs, ∃ l, RL W x l) → ∃ ls : List Lv, xs.length = ls.length ∧ ∀ (i : Nat) x l, xs[i]? = some x → ls[i]? = some l → RL W x l
 | [], _ => ⟨[], rfl, fun i x l h => by simp at h⟩
 | x :: xs, h => by
  obtain ⟨l, hl⟩ := h x (by simp)
  obtain ⟨ls, h1, h2⟩ := rl_list xs (fun y hy => h y (by simp [hy]))
  refine ⟨l :: ls, by simp [h1], fun i y m e1 e2 => ?_⟩
  cases i with
  | zero => simp at e1 e2; subst e1 e2; exact hl
  | succ i => exact h2 i y m (by simpa using e1) (by simpa using e2)
theorem open_lvl : ∀ (fuel : Nat) (cs : List Value) (x : DataW H × List MemPlace), DataW.trod enc Try.prog w base spare held fuel 24 cs = some x → ∃ c, (∃ l, RL w c l) ∧ cs = lc c := by
 intro fuel
 induction fuel using Nat.strongRecOn with
 | ind fuel ih =>
  intro cs x h
  obtain ⟨xs, n, hfu, _, hl, hlen, hf⟩ := DataW.trod_struct Try.underlying24 h
  rw [cells24] at hl
  have h0 : DataW.trod enc Try.prog w base spare held n 3 ((cs.drop 0).take (Try.prog.cellsOf 3)) = xs[0]? := hf 0 _ rfl
  have h1 : DataW.trod enc Try.prog w base spare held n 3 ((cs.drop 1).take (Try.prog.cellsOf 3)) = xs[1]? := hf 1 _ rfl
  have h2 : DataW.trod enc Try.prog w base spare held n 22 ((cs.drop 2).take (Try.prog.cellsOf 22)) = xs[2]? := hf 2 _ rfl
  rw [cells3] at h0 h1
  rw [cells22] at h2
  rw [List.getElem?_eq_getElem (by rw [hlen]; decide)] at h0 h1 h2
  match cs, hl with
  | [c0, c1, c2], _ =>
   simp only [List.drop_zero, List.drop_succ_cons, List.take_succ_cons, List.take_zero] at h0 h1 h2
   obtain ⟨z0, e0, _, _⟩ := DataW.trod_int Try.underlying3 h0
   obtain ⟨z1, e1, _, _⟩ := DataW.trod_int Try.underlying3 h1
   obtain ⟨a, len, cap, e2, ys, hR, hg, _⟩ := open_lrow (fun c => ∃ l, RL w c l) (fun m hm cs' y hy => ih m (by omega) cs' y hy) h2
   simp only [List.cons.injEq, and_true] at e0 e1 e2
   subst e0 e1 e2
   obtain ⟨ls, g1, g2⟩ := rl_list ys hg
   exact ⟨(z0, z1, .slice a len cap), ⟨.mk z0 z1 ls, .mk hR g1 g2⟩, rfl⟩
theorem open_lvls {fuel : Nat} {x : DataW H × List MemPlace} {a0 : Option Addr} {len0 cap0 : Nat} (h : DataW.trod enc Try.prog w base spare held fuel 22 [.slice a0 len0 cap0] = some x) : ∃ xs : List C3, Rd w (.slice a0 len0 cap0) 3 xs.length (xs.flatMap lc) ∧ (∃ ls : List Lv, xs.length = ls.length ∧ ∀ (i : Nat) x l, xs[i]? = some x → ls[i]? = some l → RL w x l) ∧ xs.length ≤ 9223372036854775807 := by
 obtain ⟨a, len, cap, e, xs, h1, h2, h3⟩ := open_lrow (fun c => ∃ l, RL w c l) (fun m _ cs' y hy => open_lvl m cs' y hy) h
 simp only [List.cons.injEq, and_true] at e
 cases e
 exact ⟨xs, h1, rl_list xs h2, h3⟩
end
end Go.Proofs.Ytbhhbfdoadecgaa
