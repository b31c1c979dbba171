/- Folds whose joins tell terms. -/
import Derived.Test.YtaclncmkdpjnlaaTermF
namespace Go.Proofs.Ytaclncmkdpjnlaa
open Go.RowKit Go.Shelf
set_option linter.unusedVariables false
set_option linter.unusedSimpArgs false

theorem take_snoc {α : Type} {l : List α} {i : Nat} {p : α} (h : l[i]? = some p) : l.take (i + 1) = l.take i ++ [p] := by
  rw [List.take_add_one, h]; rfl

set_option maxRecDepth 100000 in
set_option maxHeartbeats 400000 in
theorem fold88 (wl : World) (br : Nat) (hbr : br < wl.heap.size) (A : Nat → Prop) (hA : ∀ k, A k → k ≠ br ∧ k < wl.heap.size) (g : FuncId) (lb : List Value) (hg : Enters Try.prog g) (D : Int) (hD : D ≤ 4611686018427387904) (G : CT → Int → List PT → PT)
    (HJ : ∀ (W : World) (c : CT) (x : C8) (d : Int) (kv : Value) (ps : List PT) (s : Nat), Ktw br br wl W → Room W br → RC wl A c x → 0 ≤ d → d ≤ D → wl.heap.size ≤ s → s ≤ W.heap.size → RKE W (AS A s) kv ps → ps.length = c.kids.length →
      Calls Try.prog g ([tv x, .int .i64 d, kv] ++ lb).toArray W fun e w' => ∃ v, e = .returned v ∧ ((∃ y, v = tv y ∧ RE w' (AS A s) (G c d ps) y) ∧ Room w' br) ∧ Ktw br br W w') :
    ∀ (N : Nat) (c : CT) (x : C8) (d : Int) (W : World), c.size < N → RC wl A c x → 0 ≤ d → d + c.dep ≤ D → Ktw br br wl W → Room W br →
      Calls Try.prog 69 #[tv x, .int .i64 d, .func (.func g) #[] lb.toArray] W fun e w' => ∃ v, e = .returned v ∧ ((∃ y, v = tv y ∧ RE w' (AS A W.heap.size) (c.fold G d) y) ∧ Room w' br) ∧ Ktw br br W w' := by
  intro N
  induction N with
  | zero => intro c x d W h; omega
  | succ N ih =>
  intro c x d W hN hx hd0 hdD hK hR
  have h3 := c.kids_le
  have hdp := c.dep_pos
  have hQ := Ktw.refl br br W
  have sQ := hQ.size
  have sK := hK.size
  refine calls_fs 43 [(0, tv x), (1, .int .i64 d), (2, .func (.func g) #[] lb.toArray)] Try.func69 rfl rfl rfl rfl rfl fun a hF => ?_
  refine wp_rs fun K1 hK1 => ?_
  refine s_box (tc x) hF (by decide) rfl rfl fun w2 b3 a eb3 m3 B3 zb3 hF => ?_
  have sB3 := B3.size
  have hK := hK.below B3
  have hQ := hQ.below B3
  have hR := hR.below B3
  refine s_alloc hF (by decide) zero27 fun w4 b6 a eb6 m6 B5 zb6 hF => ?_
  have sB5 := B5.size
  have hK := hK.below B5
  have hQ := hQ.below B5
  have m3 := m3.old B5
  have hR := hR.below B5
  refine s_end (hK1 _ _ ?_)
  refine wp_rs fun K2 hK2 => ?_
  refine s_val hF (x_assign rfl) (by decide) fun a hF => ?_
  refine s_end (hK2 _ _ ?_)
  refine wp_seq_k fun K3 hK3 => ?_
  refine wp_rs fun K4 hK4 => ?_
  refine s_val hF (x_ldW wide27 m3 rfl rfl) (by decide) fun a hF => ?_
  refine s_callR (R := fun v w' => RK wl A v c.kids) [_] hF (enters_of Try.func89 (by kernel_rfl) rfl) rfl (by decide) (kidsOf101 c x A wl w4 hx) ?_
  rintro v12 w6 a hv12 B7 hF
  have sB7 := B7.size
  have hK := hK.below B7
  have hQ := hQ.below B7
  have m3 := m3.old B7
  have m6 := m6.old B7
  have hR := hR.below B7
  obtain ⟨a12, c12, hve, _⟩ := hv12.form
  subst hve
  refine s_val hF (x_assign rfl) (by decide) fun a hF => ?_
  refine s_end (hK4 _ _ ?_)
  rcases (show 0 < c.kids.length ∨ c.kids.length = 0 by omega) with hk | hk
  · skip
    refine wp_rs fun K6 hK6 => ?_
    refine s_val hF (x_move rfl) (by decide) fun a hF => ?_
    refine s_val hF (x_len Try.underlying25 rfl) (by decide) fun a hF => ?_
    refine s_val hF (x_gtr (b := true) (decide_eq_true (by omega)) rfl rfl) (by decide) fun a hF => ?_
    refine s_end (hK6 _ _ ?_)
    refine wp_if hF rfl ?_
    refine wp_rs fun K7 hK7 => ?_
    refine s_val hF (x_move rfl) (by decide) fun a hF => ?_
    refine s_val hF (x_len Try.underlying25 rfl) (by decide) fun a hF => ?_
    refine s_mkG c.kids.length el25 hF (by decide) rfl rfl (by omega) (by omega) rfl rfl fun w18 bm a cs18 eb18 hl18 mm B18 z18 hF => ?_
    have sB18 := B18.size
    have hK := hK.below B18
    have hQ := hQ.below B18
    have m3 := m3.old B18
    have m6 := m6.old B18
    have hR := hR.below B18
    refine s_val hF (x_assign rfl) (by decide) fun a hF => ?_
    refine s_end (hK7 _ _ ?_)
    refine wp_rs fun K8 hK8 => ?_
    refine s_val hF (x_move rfl) (by decide) fun a hF => ?_
    refine s_val hF (x_len Try.underlying25 rfl) (by decide) fun a hF => ?_
    refine s_val hF (x_move rfl) (by decide) fun a hF => ?_
    refine s_end (hK8 _ _ ?_)
    refine wp_block ?_
    refine wp_up c.kids.length (fun i a w => ∃ cs, cs.length = c.kids.length * 8 ∧ Blk w bm 27 cs ∧ MkT w (AS A (bm + 1)) cs ((c.folds G d).take i) ∧ Room w br ∧ Blk w b3 27 (tc x) ∧ Blk w b6 27 z8 ∧ Ktw br br wl w ∧ Ktw br br W w ∧ Fs 43 a [(1, .int .i64 d), (2, .func (.func g) #[] lb.toArray), (3, .pointer (some ⟨b3, 0, none⟩)), (6, .pointer (some ⟨b6, 0, none⟩)), (7, .slice (some ⟨bm, 0, none⟩) c.kids.length c.kids.length), (19, .slice a12 c.kids.length c12), (20, .int .i64 (c.kids.length : Int)), (21, .int .i64 (i : Int))]) ⟨cs18, hl18, mm, by rw [List.take_zero]; exact MkT.start _ _ _, hR, m3, m6, hK, hQ, hF.sub _ rfl⟩ ?_
    clear hF hR mm m3 m6 hK hQ
    rintro i a w hi ⟨cs, hl, mm, hM, hR, m3, m6, hK, hQ, hF⟩ K' hK'
    have sK := hK.size
    have sQ := hQ.size
    have hbmw := mm.lt
    have hb3w := m3.lt
    have hb6w := m6.lt
    have hM := hM.valid
    refine wp_rs fun K9 hK9 => ?_
    refine s_val hF (x_lss (b := decide (i < c.kids.length)) (decide_eq_decide.2 (by omega)) rfl rfl) (by decide) fun a hF => ?_
    refine s_end (hK9 _ _ ?_)
    refine wp_seq_k fun K10 hK10 => ?_
    refine wp_iff hF rfl (fun hc22 => ?_) (fun hc22 => ?_)
    · obtain ⟨b9, off9, c9, y, kd, hve, hyk, hry, hAb, hbl, hrow⟩ := hv12.row (i := i) (by omega)
      cases hve
      have hks := CT.kid_size hyk
      have hbd := c.bnd_is i
      have htk := take_snoc (CT.folds_get G (d := d) hyk)
      have hti : ((c.folds G d).take i).length = i := by rw [List.length_take, CT.folds_len]; omega
      refine wp_skip (hK10 _ _ ?_)
      refine wp_seq_k fun K11 hK11 => ?_
      refine wp_block ?_
      refine wp_rs fun K12 hK12 => ?_
      refine s_val hF (x_move rfl) (by decide) fun a hF => ?_
      refine s_val hF (x_ixa rfl rfl (m_ixsK i Try.underlying25 el25.size rfl (by omega))) (by decide) fun a hF => ?_
      refine s_val hF (x_ldA wide27 (hrow _ (hK.block _ hbl ⟨(hA _ hAb).1, (hA _ hAb).1⟩)) rfl rfl) (by decide) fun a hF => ?_
      refine s_alloc hF (by decide) zero27 fun w8 b10 a eb10 m10 B9 zb10 hF => ?_
      have sB9 := B9.size
      have hK := hK.below B9
      have hQ := hQ.below B9
      have mm := mm.old B9
      have m3 := m3.old B9
      have m6 := m6.old B9
      have hR := hR.below B9
      have hM := hM.below B9
      refine s_val hF (x_assign rfl) (by decide) fun a hF => ?_
      refine s_putW hF rfl rfl (size_wide wide27) m10 rfl hry.one fun w12 m10 o13 => ?_
      have so13 := o13.size
      have hK := hK.only o13 (by omega)
      have hQ := hQ.only o13 (by omega)
      have mm := mm.only o13 (by omega)
      have m3 := m3.only o13 (by omega)
      have m6 := m6.only o13 (by omega)
      have hR := hR.only o13 (by omega)
      have hM := hM.only o13 (by first | (intro h; have h2 := h.2; omega) | (intro h; rcases h.1 with h1 | h1; (have := hA _ h1; omega); (have := h.2; omega)) | (intro h; rcases h.1 with h1 | h1; (have := h1.2; omega); (have := h.2; omega)) | (intro h; rcases h.1 with h1 | h1; (exact hAS _ h1.1 rfl); (have := h.2; omega)) | (intro h; rcases h with h | h; (have := hA _ h; omega); omega) | (intro h; have := hA _ h; omega) | (intro h; rcases h with h | h; (have := h.2; omega); omega) | exact Ar.nbr | exact Ai.nbr | exact Ar.no (by omega) | exact Ai.no (by omega))
      refine s_end (hK12 _ _ ?_)
      refine dk2_one (br) (bm) (ops := regOps Try.f69 8) (N := 12) (by kernel_rfl) wide_orders (by kernel_rfl) fun w14 hw14 B15 hS K13 hK13 => ?_
      have zw14 : w14.heap.size = w12.heap.size := by rw [hw14]
      have sB15 := B15.size
      have hK := hK.below B15
      have hQ := hQ.below B15
      have mm := mm.old B15
      have m3 := m3.old B15
      have m6 := m6.old B15
      have m10 := m10.old B15
      have hR := hR.below B15
      have hM := hM.below B15
      have hR_d := hR
      have mm_d := mm
      have m3_d := m3
      have m6_d := m6
      have hM_d := hM
      have m10_d := m10
      have hK_d := hK
      have hQ_d := hQ
      refine d_val 0 26 (op := (Go.Op.move (Go.Operand.tmp 7))) hF hS (by kernel_rfl) (fun W hW => x_move rfl) (by kernel_rfl) (by decide) fun a hF => ?_
      refine d_val 1 27 (op := (Go.Op.move (Go.Operand.tmp 9))) hF hS (by kernel_rfl) (fun W hW => x_move rfl) (by kernel_rfl) (by decide) fun a hF => ?_
      refine d_val 2 28 (op := (Go.Op.load 27 (Go.Operand.tmp 10))) hF hS (by kernel_rfl) (fun W hW => x_ldW wide27 (m10_d.k2 hW (by omega)) rfl rfl) (by kernel_rfl) (by decide) fun a hF => ?_
      refine d_val 3 29 (op := (Go.Op.move (Go.Operand.tmp 1))) hF hS (by kernel_rfl) (fun W hW => x_move rfl) (by kernel_rfl) (by decide) fun a hF => ?_
      refine d_val 4 30 (op := (Go.Op.load 27 (Go.Operand.tmp 3))) hF hS (by kernel_rfl) (fun W hW => x_ldW wide27 (m3_d.k2 hW (by omega)) rfl rfl) (by kernel_rfl) (by decide) fun a hF => ?_
      refine d_val 5 31 (op := (Go.Op.move (Go.Operand.tmp 9))) hF hS (by kernel_rfl) (fun W hW => x_move rfl) (by kernel_rfl) (by decide) fun a hF => ?_
      refine d_val 8 34 (op := (Go.Op.move (Go.Operand.tmp 2))) hF hS (by kernel_rfl) (fun W hW => x_move rfl) (by kernel_rfl) (by decide) fun a hF => ?_
      refine d_one 6 (some 32) (Go.Op.call (Go.Call.mk (Go.Callee.value (Go.Operand.func 107)) #[(Go.Operand.tmp 30), (Go.Operand.tmp 31)] #[27, 3])) (by kernel_rfl) (by kernel_rfl) fun ty pos af => ?_
      refine s_callB [_, _] hF (enters_of Try.func107 (by kernel_rfl) rfl) rfl (by decide) (binds112 c x A i wl w14 hx (by omega)) fun w16 a B17 hF => ?_
      have sB17 := B17.size
      have hK := hK.below B17
      have hQ := hQ.below B17
      have mm := mm.old B17
      have m3 := m3.old B17
      have m6 := m6.old B17
      have m10 := m10.old B17
      have hS := hS.below B17
      have hR := hR.below B17
      have hM := hM.below B17
      refine s_end ⟨hS, ?_⟩
      refine d_val 7 33 (op := (Go.Op.binOp Go.BinOp.add 3 (Go.Operand.tmp 29) (Go.Operand.tmp 32) 3)) hF hS (by kernel_rfl) (fun W hW => x_add (by omega) (by omega) rfl rfl) (by kernel_rfl) (by decide) fun a hF => ?_
      refine d_one 9 (some 35) (Go.Op.call (Go.Call.mk (Go.Callee.value (Go.Operand.func 69)) #[(Go.Operand.tmp 28), (Go.Operand.tmp 33), (Go.Operand.tmp 34)] #[27, 3, 89])) (by kernel_rfl) (by kernel_rfl) fun ty pos af => ?_
      refine s_call (R := fun u w' => ((∃ y, u = tv y ∧ RE w' (AS A w16.heap.size) (kd.fold G (d + c.bnd i)) y) ∧ Room w' br) ∧ Ktw br br w16 w') hF [_, _, _] (enters_of Try.func69 (by kernel_rfl) rfl) rfl (by decide) (ih kd y (d + c.bnd i) w16 (by omega) hry (by omega) (by omega) hK hR) ?_
      rintro _ w18 a ⟨⟨⟨z35, rfl, hz35⟩, hR⟩, k19⟩ hF
      have sk19 := k19.size
      have hK := hK.trans k19 (by omega)
      have hQ := hQ.trans k19 (by omega)
      have mm := mm.k2 k19 (by omega)
      have m3 := m3.k2 k19 (by omega)
      have m6 := m6.k2 k19 (by omega)
      have m10 := m10.k2 k19 (by omega)
      have hS := hS.trans k19 (by omega)
      have hM := hM.k2 k19 (by first | (intro h; have h2 := h.2; omega) | (intro h; rcases h.1 with h1 | h1; (have := hA _ h1; omega); (have := h.2; omega)) | (intro h; rcases h.1 with h1 | h1; (have := h1.2; omega); (have := h.2; omega)) | (intro h; rcases h.1 with h1 | h1; (exact hAS _ h1.1 rfl); (have := h.2; omega)) | (intro h; rcases h with h | h; (have := hA _ h; omega); omega) | (intro h; have := hA _ h; omega) | (intro h; rcases h with h | h; (have := h.2; omega); omega) | exact Ar.nbr | exact Ai.nbr | exact Ar.no (by omega) | exact Ai.no (by omega)) (by first | (intro h; have h2 := h.2; omega) | (intro h; rcases h.1 with h1 | h1; (have := hA _ h1; omega); (have := h.2; omega)) | (intro h; rcases h.1 with h1 | h1; (have := h1.2; omega); (have := h.2; omega)) | (intro h; rcases h.1 with h1 | h1; (exact hAS _ h1.1 rfl); (have := h.2; omega)) | (intro h; rcases h with h | h; (have := hA _ h; omega); omega) | (intro h; have := hA _ h; omega) | (intro h; rcases h with h | h; (have := h.2; omega); omega) | exact Ar.nbr | exact Ai.nbr | exact Ar.no (by omega) | exact Ai.no (by omega))
      have hz35 := hz35.mono (AS.mono (s' := bm + 1) (by omega))
      refine s_end ⟨hS, ?_⟩
      refine d_val 10 36 (op := (Go.Op.indexAddr 25 (Go.Operand.tmp 26) (Go.Operand.tmp 27))) hF hS (by kernel_rfl) (fun W hW => x_ixa rfl rfl (m_ixsK i Try.underlying25 el25.size rfl (by omega))) (by kernel_rfl) (by decide) fun a hF => ?_
      refine d_one 11 none (Go.Op.store 27 (Go.Operand.tmp 36) (Go.Operand.tmp 35)) (by kernel_rfl) (by kernel_rfl) fun ty pos af => ?_
      refine s_putP hF rfl rfl (size_wide wide27) mm (by rw [hl]; simp only [tc_len]; omega) hz35.one fun w40 mm o40 => ?_
      have so40 := o40.size
      have hK := hK.only o40 (by omega)
      have hQ := hQ.only o40 (by omega)
      have m3 := m3.only o40 (by omega)
      have m6 := m6.only o40 (by omega)
      have m10 := m10.only o40 (by omega)
      have hS := hS.only o40 (by omega)
      have hR := hR.only o40 (by omega)
      have hM := hM.only o40 (by first | (intro h; have h2 := h.2; omega) | (intro h; rcases h.1 with h1 | h1; (have := hA _ h1; omega); (have := h.2; omega)) | (intro h; rcases h.1 with h1 | h1; (have := h1.2; omega); (have := h.2; omega)) | (intro h; rcases h.1 with h1 | h1; (exact hAS _ h1.1 rfl); (have := h.2; omega)) | (intro h; rcases h with h | h; (have := hA _ h; omega); omega) | (intro h; have := hA _ h; omega) | (intro h; rcases h with h | h; (have := h.2; omega); omega) | exact Ar.nbr | exact Ai.nbr | exact Ar.no (by omega) | exact Ai.no (by omega))
      have hz35 := hz35.only o40 (by first | (intro h; have h2 := h.2; omega) | (intro h; rcases h.1 with h1 | h1; (have := hA _ h1; omega); (have := h.2; omega)) | (intro h; rcases h.1 with h1 | h1; (have := h1.2; omega); (have := h.2; omega)) | (intro h; rcases h.1 with h1 | h1; (exact hAS _ h1.1 rfl); (have := h.2; omega)) | (intro h; rcases h with h | h; (have := hA _ h; omega); omega) | (intro h; have := hA _ h; omega) | (intro h; rcases h with h | h; (have := h.2; omega); omega) | exact Ar.nbr | exact Ai.nbr | exact Ar.no (by omega) | exact Ai.no (by omega))
      refine s_end ⟨hS, ?_⟩
      refine d_end (by kernel_rfl) (hK13 _ _ ?_)
      refine hK11 _ _ ?_
      refine wp_region_lit ?_
      refine s_val hF (x_add (by omega) (by omega) rfl rfl) (by decide) fun a hF => ?_
      refine s_val hF (x_move rfl) (by decide) fun a hF => ?_
      refine s_end (hK' _ _ (by omega) ⟨_, by rw [put_len (by rw [hl]; simp only [tc_len]; omega), hl], mm, by rw [htk]; exact (hM.mono fun k h => h.1).snoc hz35 (by rw [hti]; omega) (by rw [hti, hl]; omega), hR, m3, m6, hK, hQ, hF.sub _ rfl⟩)
    · obtain rfl : i = c.kids.length := by omega
      rw [List.take_of_length_le (by rw [CT.folds_len]; exact Nat.le_refl _)] at hM
      have hkv : RKE w (AS A (b6 + 1)) _ (c.folds G d) := (hM.mono fun k h => h.1).rke mm (by rw [hl, CT.folds_len]) (AS.mono (by omega)) (.inr (by omega)) (CT.folds_len G c d).symm
      refine wp_exit (hK3 _ _ ?_)
      refine wp_rs fun K14 hK14 => ?_
      refine s_val hF (x_move rfl) (by decide) fun a hF => ?_
      refine s_val hF (x_ldW wide27 m3 rfl rfl) (by decide) fun a hF => ?_
      refine s_val hF (x_move rfl) (by decide) fun a hF => ?_
      refine s_val hF (x_move rfl) (by decide) fun a hF => ?_
      refine s_callC (R := fun v w' => ((∃ y, v = tv y ∧ RE w' (AS A (b6 + 1)) (G c d (c.folds G d)) y) ∧ Room w' br) ∧ Ktw br br w w') hF [_, _, _] rfl hg rfl (by decide) (HJ _ c x d _ _ _ hK hR hx (by omega) (by omega) (by omega) (by omega) hkv (CT.folds_len G c d)) ?_
      rintro _ w42 a ⟨⟨⟨y42, rfl, hy42⟩, hR⟩, k42⟩ hF
      have sk42 := k42.size
      have hK := hK.trans k42 (by omega)
      have hQ := hQ.trans k42 (by omega)
      have mm := mm.k2 k42 (by omega)
      have m3 := m3.k2 k42 (by omega)
      have m6 := m6.k2 k42 (by omega)
      refine s_putW hF rfl rfl (size_wide wide27) m6 rfl hy42.one fun w22 m6 o23 => ?_
      have so23 := o23.size
      have hK := hK.only o23 (by omega)
      have hQ := hQ.only o23 (by omega)
      have mm := mm.only o23 (by omega)
      have m3 := m3.only o23 (by omega)
      have hR := hR.only o23 (by omega)
      have hy42 := hy42.only o23 (by first | (intro h; have h2 := h.2; omega) | (intro h; rcases h.1 with h1 | h1; (have := hA _ h1; omega); (have := h.2; omega)) | (intro h; rcases h.1 with h1 | h1; (have := h1.2; omega); (have := h.2; omega)) | (intro h; rcases h.1 with h1 | h1; (exact hAS _ h1.1 rfl); (have := h.2; omega)) | (intro h; rcases h with h | h; (have := hA _ h; omega); omega) | (intro h; have := hA _ h; omega) | (intro h; rcases h with h | h; (have := h.2; omega); omega) | exact Ar.nbr | exact Ai.nbr | exact Ar.no (by omega) | exact Ai.no (by omega))
      refine s_end (hK14 _ _ ?_)
      refine wp_ret (res_cell hF rfl rfl m6 wide27 ⟨_, rfl, ⟨⟨y42, rfl, by rw [CT.fold_eq]; exact hy42.mono (AS.mono (by omega))⟩, hR⟩, hQ⟩)
  · have hkv : RKE w6 (AS A (b6 + 1)) nilS (c.folds G d) := by have e0 : c.folds G d = [] := List.eq_nil_of_length_eq_zero (by rw [CT.folds_len]; omega); rw [e0]; exact RKE.nil w6 _
    refine wp_rs fun K15 hK15 => ?_
    refine s_val hF (x_move rfl) (by decide) fun a hF => ?_
    refine s_val hF (x_len Try.underlying25 rfl) (by decide) fun a hF => ?_
    refine s_val hF (x_gtr (b := false) (decide_eq_false (by omega)) rfl rfl) (by decide) fun a hF => ?_
    refine s_end (hK15 _ _ ?_)
    refine wp_if hF rfl ?_
    refine wp_skip (hK3 _ _ ?_)
    refine wp_rs fun K16 hK16 => ?_
    refine s_val hF (x_move rfl) (by decide) fun a hF => ?_
    refine s_val hF (x_ldW wide27 m3 rfl rfl) (by decide) fun a hF => ?_
    refine s_val hF (x_move rfl) (by decide) fun a hF => ?_
    refine s_val hF (x_move rfl) (by decide) fun a hF => ?_
    refine s_callC (R := fun v w' => ((∃ y, v = tv y ∧ RE w' (AS A (b6 + 1)) (G c d (c.folds G d)) y) ∧ Room w' br) ∧ Ktw br br w6 w') hF [_, _, _] rfl hg rfl (by decide) (HJ _ c x d _ _ _ hK hR hx (by omega) (by omega) (by omega) (by omega) hkv (CT.folds_len G c d)) ?_
    rintro _ w42 a ⟨⟨⟨y42, rfl, hy42⟩, hR⟩, k42⟩ hF
    have sk42 := k42.size
    have hK := hK.trans k42 (by omega)
    have hQ := hQ.trans k42 (by omega)
    have m3 := m3.k2 k42 (by omega)
    have m6 := m6.k2 k42 (by omega)
    refine s_putW hF rfl rfl (size_wide wide27) m6 rfl hy42.one fun w26 m6 o27 => ?_
    have so27 := o27.size
    have hK := hK.only o27 (by omega)
    have hQ := hQ.only o27 (by omega)
    have m3 := m3.only o27 (by omega)
    have hR := hR.only o27 (by omega)
    have hy42 := hy42.only o27 (by first | (intro h; have h2 := h.2; omega) | (intro h; rcases h.1 with h1 | h1; (have := hA _ h1; omega); (have := h.2; omega)) | (intro h; rcases h.1 with h1 | h1; (have := h1.2; omega); (have := h.2; omega)) | (intro h; rcases h.1 with h1 | h1; (exact hAS _ h1.1 rfl); (have := h.2; omega)) | (intro h; rcases h with h | h; (have := hA _ h; omega); omega) | (intro h; have := hA _ h; omega) | (intro h; rcases h with h | h; (have := h.2; omega); omega) | exact Ar.nbr | exact Ai.nbr | exact Ar.no (by omega) | exact Ai.no (by omega))
    refine s_end (hK16 _ _ ?_)
    refine wp_ret (res_cell hF rfl rfl m6 wide27 ⟨_, rfl, ⟨⟨y42, rfl, by rw [CT.fold_eq]; exact hy42.mono (AS.mono (by omega))⟩, hR⟩, hQ⟩)
end Go.Proofs.Ytaclncmkdpjnlaa
