/- Folds whose joins tell terms. -/
import Derived.Test.YtaclncmkdpjnlaaTermF
namespace Go.Proofs.Ytaclncmkdpjnlaa
open Go.RowKit Go.Shelf
set_option linter.unusedVariables false
set_option linter.unusedSimpArgs false

/-- Its kids' list holds just so many. -/
def Tn (n : Nat) (y : C8) : Prop := ∃ a cp, y.ts = .slice a n cp
def Tt (c : CT) (y : C8) : Prop := 0 < c.kids.length → Tn c.kids.length y
theorem tt_var {n : Int} {m : Nat} {y : C8} : Tt (.var n m) y := fun h => by simp [CT.kids] at h
theorem tt_of {W : World} {A : Nat → Prop} {c : CT} {y : C8} {kv : Value} {ps : List PT} (hl : ps.length = c.kids.length) (h : RKE W A kv ps) (hy : y.ts = kv) : Tt c y := fun _ => by
  obtain ⟨a, cp, he, _⟩ := h.form
  exact ⟨a, cp, by rw [hy, he, hl]⟩
theorem take_snoc {α : Type} {l : List α} {i : Nat} {p : α} (h : l[i]? = some p) : l.take (i + 1) = l.take i ++ [p] := by
  rw [List.take_add_one, h]; rfl

set_option maxRecDepth 100000 in
set_option maxHeartbeats 400000 in
theorem fold88 (wl : World) (br : Nat) (hbr : br < wl.heap.size) (A : Nat → Prop) (hA : ∀ k, A k → k ≠ br ∧ k < wl.heap.size) (g : FuncId) (lb : List Value) (hg : Enters Try.prog g) (D : Int) (hD : D ≤ 4611686018427387904) (G : CT → Int → List PT → PT)
    (HJ : ∀ (W : World) (c : CT) (x : C8) (d : Int) (kv : Value) (ps : List PT) (s : Nat), Ktw br br wl W → Room W br → RC wl A c x → 0 ≤ d → d ≤ D → wl.heap.size ≤ s → s ≤ W.heap.size → RKE W (AS A s) kv ps → ps.length = c.kids.length →
      Calls Try.prog g ([tv x, .int .i64 d, kv] ++ lb).toArray W fun e w' => ∃ v, e = .returned v ∧ ((∃ y, v = tv y ∧ RE w' (AS A s) (G c d ps) y ∧ Tt c y) ∧ Room w' br) ∧ Ktw br br W w') :
    ∀ (N : Nat) (c : CT) (x : C8) (d : Int) (W : World), c.size < N → RC wl A c x → 0 ≤ d → d + c.dep ≤ D → Ktw br br wl W → Room W br →
      Calls Try.prog 69 #[tv x, .int .i64 d, .func (.func g) #[] lb.toArray] W fun e w' => ∃ v, e = .returned v ∧ ((∃ y, v = tv y ∧ RE w' (AS A W.heap.size) (c.fold G d) y ∧ Tt c y) ∧ Room w' br) ∧ Ktw br br W w' := by
  intro N
  induction N with
  | zero => intro c x d W h; omega
  | succ N ih =>
  intro c x d W hN hx hd0 hdD hK hR
  have h3 := c.kids_le
  have hdp := c.dep_pos
  have hQ := Ktw.refl br br W
  have sQ := hQ.size
  have sK := hK.size
  refine calls_fs 43 [(0, tv x), (1, .int .i64 d), (2, .func (.func g) #[] lb.toArray)] Try.func69 rfl rfl rfl rfl rfl fun a hF => ?_
  refine wp_rs fun K1 hK1 => ?_
  refine s_box (tc x) hF (by decide) rfl rfl fun w2 b3 a eb3 m3 B3 zb3 hF => ?_
  have sB3 := B3.size
  have hK := hK.below B3
  have hQ := hQ.below B3
  have hR := hR.below B3
  refine s_alloc hF (by decide) zero27 fun w4 b6 a eb6 m6 B5 zb6 hF => ?_
  have sB5 := B5.size
  have hK := hK.below B5
  have hQ := hQ.below B5
  have m3 := m3.old B5
  have hR := hR.below B5
  refine s_end (hK1 _ _ ?_)
  refine wp_rs fun K2 hK2 => ?_
  refine s_val hF (x_assign rfl) (by decide) fun a hF => ?_
  refine s_end (hK2 _ _ ?_)
  refine wp_seq_k fun K3 hK3 => ?_
  refine wp_rs fun K4 hK4 => ?_
  refine s_val hF (x_ldW wide27 m3 rfl rfl) (by decide) fun a hF => ?_
  refine s_callR (R := fun v w' => RK wl A v c.kids) [_] hF (enters_of Try.func89 (by kernel_rfl) rfl) rfl (by decide) (kidsOf101 c x A wl w4 hx) ?_
  rintro v12 w6 a hv12 B7 hF
  have sB7 := B7.size
  have hK := hK.below B7
  have hQ := hQ.below B7
  have m3 := m3.old B7
  have m6 := m6.old B7
  have hR := hR.below B7
  obtain ⟨a12, c12, hve, _⟩ := hv12.form
  subst hve
  refine s_val hF (x_assign rfl) (by decide) fun a hF => ?_
  refine s_end (hK4 _ _ ?_)
  rcases (show 0 < c.kids.length ∨ c.kids.length = 0 by omega) with hk | hk
  · skip
    refine wp_rs fun K6 hK6 => ?_
    refine s_val hF (x_move rfl) (by decide) fun a hF => ?_
    refine s_val hF (x_len Try.underlying25 rfl) (by decide) fun a hF => ?_
    refine s_val hF (x_gtr (b := true) (decide_eq_true (by omega)) rfl rfl) (by decide) fun a hF => ?_
    refine s_end (hK6 _ _ ?_)
    refine wp_if hF rfl ?_
    refine wp_rs fun K7 hK7 => ?_
    refine s_val hF (x_move rfl) (by decide) fun a hF => ?_
    refine s_val hF (x_len Try.underlying25 rfl) (by decide) fun a hF => ?_
    refine s_mkG c.kids.length el25 hF (by decide) rfl rfl (by omega) (by omega) rfl rfl fun w18 bm a cs18 eb18 hl18 mm B18 z18 hF => ?_
    have sB18 := B18.size
    have hK := hK.below B18
    have hQ := hQ.below B18
    have m3 := m3.old B18
    have m6 := m6.old B18
    have hR := hR.below B18
    refine s_val hF (x_assign rfl) (by decide) fun a hF => ?_
    refine s_end (hK7 _ _ ?_)
    refine wp_rs fun K8 hK8 => ?_
    refine s_val hF (x_move rfl) (by decide) fun a hF => ?_
    refine s_val hF (x_len Try.underlying25 rfl) (by decide) fun a hF => ?_
    refine s_val hF (x_move rfl) (by decide) fun a hF => ?_
    refine s_end (hK8 _ _ ?_)
    refine wp_block ?_
    refine wp_up c.kids.length (fun i a w => ∃ cs, cs.length = c.kids.length * 8 ∧ Blk w bm 27 cs ∧ MkT w (AS A (bm + 1)) cs ((c.folds G d).take i) ∧ Room w br ∧ Blk w b3 27 (tc x) ∧ Blk w b6 27 z8 ∧ Ktw br br wl w ∧ Ktw br br W w ∧ Fs 43 a [(1, .int .i64 d), (2, .func (.func g) #[] lb.toArray), (3, .pointer (some ⟨b3, 0, none⟩)), (6, .pointer (some ⟨b6, 0, none⟩)), (7, .slice (some ⟨bm, 0, none⟩) c.kids.length c.kids.length), (19, .slice a12 c.kids.length c12), (20, .int .i64 (c.kids.length : Int)), (21, .int .i64 (i : Int))]) ⟨cs18, hl18, mm, by rw [List.take_zero]; exact MkT.start _ _ _, hR, m3, m6, hK, hQ, hF.sub _ rfl⟩ ?_
    clear hF hR mm m3 m6 hK hQ
    rintro i a w hi ⟨cs, hl, mm, hM, hR, m3, m6, hK, hQ, hF⟩ K' hK'
    have sK := hK.size
    have sQ := hQ.size
    have hbmw := mm.lt
    have hb3w := m3.lt
    have hb6w := m6.lt
    have hM := hM.valid
    refine wp_rs fun K9 hK9 => ?_
    refine s_val hF (x_lss (b := decide (i < c.kids.length)) (decide_eq_decide.2 (by omega)) rfl rfl) (by decide) fun a hF => ?_
    refine s_end (hK9 _ _ ?_)
    refine wp_seq_k fun K10 hK10 => ?_
    refine wp_iff hF rfl (fun hc22 => ?_) (fun hc22 => ?_)
    · obtain ⟨b9, off9, c9, y, kd, hve, hyk, hry, hAb, hbl, hrow⟩ := hv12.row (i := i) (by omega)
      cases hve
      have hks := CT.kid_size hyk
      have hbd := c.bnd_is i
      have htk := take_snoc (CT.folds_get G (d := d) hyk)
      have hti : ((c.folds G d).take i).length = i := by rw [List.length_take, CT.folds_len]; omega
      refine wp_skip (hK10 _ _ ?_)
      refine wp_seq_k fun K11 hK11 => ?_
      refine wp_block ?_
      refine wp_rs fun K12 hK12 => ?_
      refine s_val hF (x_move rfl) (by decide) fun a hF => ?_
      refine s_val hF (x_ixa rfl rfl (m_ixsK i Try.underlying25 el25.size rfl (by omega))) (by decide) fun a hF => ?_
      refine s_val hF (x_ldA wide27 (hrow _ (hK.block _ hbl ⟨(hA _ hAb).1, (hA _ hAb).1⟩)) rfl rfl) (by decide) fun a hF => ?_
      refine s_alloc hF (by decide) zero27 fun w8 b10 a eb10 m10 B9 zb10 hF => ?_
      have sB9 := B9.size
      have hK := hK.below B9
      have hQ := hQ.below B9
      have mm := mm.old B9
      have m3 := m3.old B9
      have m6 := m6.old B9
      have hR := hR.below B9
      have hM := hM.below B9
      refine s_val hF (x_assign rfl) (by decide) fun a hF => ?_
      refine s_putW hF rfl rfl (size_wide wide27) m10 rfl hry.one fun w12 m10 o13 => ?_
      have so13 := o13.size
      have hK := hK.only o13 (by omega)
      have hQ := hQ.only o13 (by omega)
      have mm := mm.only o13 (by omega)
      have m3 := m3.only o13 (by omega)
      have m6 := m6.only o13 (by omega)
      have hR := hR.only o13 (by omega)
      have hM := hM.only o13 (by first | (intro h; have h2 := h.2; omega) | (intro h; rcases h.1 with h1 | h1; (have := hA _ h1; omega); (have := h.2; omega)) | (intro h; rcases h.1 with h1 | h1; (have := h1.2; omega); (have := h.2; omega)) | (intro h; rcases h.1 with h1 | h1; (exact hAS _ h1.1 rfl); (have := h.2; omega)) | (intro h; rcases h with h | h; (have := hA _ h; omega); omega) | (intro h; have := hA _ h; omega) | (intro h; rcases h with h | h; (have := h.2; omega); omega) | exact Ar.nbr | exact Ai.nbr | exact Ar.no (by omega) | exact Ai.no (by omega))
      refine s_end (hK12 _ _ ?_)
      refine dk2_one (br) (bm) (ops := regOps Try.f69 8) (N := 12) (by kernel_rfl) wide_orders (by kernel_rfl) fun w14 hw14 B15 hS K13 hK13 => ?_
      have zw14 : w14.heap.size = w12.heap.size := by rw [hw14]
      have sB15 := B15.size
      have hK := hK.below B15
      have hQ := hQ.below B15
      have mm := mm.old B15
      have m3 := m3.old B15
      have m6 := m6.old B15
      have m10 := m10.old B15
      have hR := hR.below B15
      have hM := hM.below B15
      have hR_d := hR
      have mm_d := mm
      have m3_d := m3
      have m6_d := m6
      have hM_d := hM
      have m10_d := m10
      have hK_d := hK
      have hQ_d := hQ
      refine d_val 0 26 (op := (Go.Op.move (Go.Operand.tmp 7))) hF hS (by kernel_rfl) (fun W hW => x_move rfl) (by kernel_rfl) (by decide) fun a hF => ?_
      refine d_val 1 27 (op := (Go.Op.move (Go.Operand.tmp 9))) hF hS (by kernel_rfl) (fun W hW => x_move rfl) (by kernel_rfl) (by decide) fun a hF => ?_
      refine d_val 2 28 (op := (Go.Op.load 27 (Go.Operand.tmp 10))) hF hS (by kernel_rfl) (fun W hW => x_ldW wide27 (m10_d.k2 hW (by omega)) rfl rfl) (by kernel_rfl) (by decide) fun a hF => ?_
      refine d_val 3 29 (op := (Go.Op.move (Go.Operand.tmp 1))) hF hS (by kernel_rfl) (fun W hW => x_move rfl) (by kernel_rfl) (by decide) fun a hF => ?_
      refine d_val 4 30 (op := (Go.Op.load 27 (Go.Operand.tmp 3))) hF hS (by kernel_rfl) (fun W hW => x_ldW wide27 (m3_d.k2 hW (by omega)) rfl rfl) (by kernel_rfl) (by decide) fun a hF => ?_
      refine d_val 5 31 (op := (Go.Op.move (Go.Operand.tmp 9))) hF hS (by kernel_rfl) (fun W hW => x_move rfl) (by kernel_rfl) (by decide) fun a hF => ?_
      refine d_val 8 34 (op := (Go.Op.move (Go.Operand.tmp 2))) hF hS (by kernel_rfl) (fun W hW => x_move rfl) (by kernel_rfl) (by decide) fun a hF => ?_
      refine d_one 6 (some 32) (Go.Op.call (Go.Call.mk (Go.Callee.value (Go.Operand.func 107)) #[(Go.Operand.tmp 30), (Go.Operand.tmp 31)] #[27, 3])) (by kernel_rfl) (by kernel_rfl) fun ty pos af => ?_
      refine s_callB [_, _] hF (enters_of Try.func107 (by kernel_rfl) rfl) rfl (by decide) (binds112 c x A i wl w14 hx (by omega)) fun w16 a B17 hF => ?_
      have sB17 := B17.size
      have hK := hK.below B17
      have hQ := hQ.below B17
      have mm := mm.old B17
      have m3 := m3.old B17
      have m6 := m6.old B17
      have m10 := m10.old B17
      have hS := hS.below B17
      have hR := hR.below B17
      have hM := hM.below B17
      refine s_end ⟨hS, ?_⟩
      refine d_val 7 33 (op := (Go.Op.binOp Go.BinOp.add 3 (Go.Operand.tmp 29) (Go.Operand.tmp 32) 3)) hF hS (by kernel_rfl) (fun W hW => x_add (by omega) (by omega) rfl rfl) (by kernel_rfl) (by decide) fun a hF => ?_
      refine d_one 9 (some 35) (Go.Op.call (Go.Call.mk (Go.Callee.value (Go.Operand.func 69)) #[(Go.Operand.tmp 28), (Go.Operand.tmp 33), (Go.Operand.tmp 34)] #[27, 3, 89])) (by kernel_rfl) (by kernel_rfl) fun ty pos af => ?_
      refine s_call (R := fun u w' => ((∃ y, u = tv y ∧ RE w' (AS A w16.heap.size) (kd.fold G (d + c.bnd i)) y ∧ Tt kd y) ∧ Room w' br) ∧ Ktw br br w16 w') hF [_, _, _] (enters_of Try.func69 (by kernel_rfl) rfl) rfl (by decide) (ih kd y (d + c.bnd i) w16 (by omega) hry (by omega) (by omega) hK hR) ?_
      rintro _ w18 a ⟨⟨⟨z35, rfl, hz35, _⟩, hR⟩, k19⟩ hF
      have sk19 := k19.size
      have hK := hK.trans k19 (by omega)
      have hQ := hQ.trans k19 (by omega)
      have mm := mm.k2 k19 (by omega)
      have m3 := m3.k2 k19 (by omega)
      have m6 := m6.k2 k19 (by omega)
      have m10 := m10.k2 k19 (by omega)
      have hS := hS.trans k19 (by omega)
      have hM := hM.k2 k19 (by first | (intro h; have h2 := h.2; omega) | (intro h; rcases h.1 with h1 | h1; (have := hA _ h1; omega); (have := h.2; omega)) | (intro h; rcases h.1 with h1 | h1; (have := h1.2; omega); (have := h.2; omega)) | (intro h; rcases h.1 with h1 | h1; (exact hAS _ h1.1 rfl); (have := h.2; omega)) | (intro h; rcases h with h | h; (have := hA _ h; omega); omega) | (intro h; have := hA _ h; omega) | (intro h; rcases h with h | h; (have := h.2; omega); omega) | exact Ar.nbr | exact Ai.nbr | exact Ar.no (by omega) | exact Ai.no (by omega)) (by first | (intro h; have h2 := h.2; omega) | (intro h; rcases h.1 with h1 | h1; (have := hA _ h1; omega); (have := h.2; omega)) | (intro h; rcases h.1 with h1 | h1; (have := h1.2; omega); (have := h.2; omega)) | (intro h; rcases h.1 with h1 | h1; (exact hAS _ h1.1 rfl); (have := h.2; omega)) | (intro h; rcases h with h | h; (have := hA _ h; omega); omega) | (intro h; have := hA _ h; omega) | (intro h; rcases h with h | h; (have := h.2; omega); omega) | exact Ar.nbr | exact Ai.nbr | exact Ar.no (by omega) | exact Ai.no (by omega))
      have hz35 := hz35.mono (AS.mono (s' := bm + 1) (by omega))
      refine s_end ⟨hS, ?_⟩
      refine d_val 10 36 (op := (Go.Op.indexAddr 25 (Go.Operand.tmp 26) (Go.Operand.tmp 27))) hF hS (by kernel_rfl) (fun W hW => x_ixa rfl rfl (m_ixsK i Try.underlying25 el25.size rfl (by omega))) (by kernel_rfl) (by decide) fun a hF => ?_
      refine d_one 11 none (Go.Op.store 27 (Go.Operand.tmp 36) (Go.Operand.tmp 35)) (by kernel_rfl) (by kernel_rfl) fun ty pos af => ?_
      refine s_putP hF rfl rfl (size_wide wide27) mm (by rw [hl]; simp only [tc_len]; omega) hz35.one fun w40 mm o40 => ?_
      have so40 := o40.size
      have hK := hK.only o40 (by omega)
      have hQ := hQ.only o40 (by omega)
      have m3 := m3.only o40 (by omega)
      have m6 := m6.only o40 (by omega)
      have m10 := m10.only o40 (by omega)
      have hS := hS.only o40 (by omega)
      have hR := hR.only o40 (by omega)
      have hM := hM.only o40 (by first | (intro h; have h2 := h.2; omega) | (intro h; rcases h.1 with h1 | h1; (have := hA _ h1; omega); (have := h.2; omega)) | (intro h; rcases h.1 with h1 | h1; (have := h1.2; omega); (have := h.2; omega)) | (intro h; rcases h.1 with h1 | h1; (exact hAS _ h1.1 rfl); (have := h.2; omega)) | (intro h; rcases h with h | h; (have := hA _ h; omega); omega) | (intro h; have := hA _ h; omega) | (intro h; rcases h with h | h; (have := h.2; omega); omega) | exact Ar.nbr | exact Ai.nbr | exact Ar.no (by omega) | exact Ai.no (by omega))
      have hz35 := hz35.only o40 (by first | (intro h; have h2 := h.2; omega) | (intro h; rcases h.1 with h1 | h1; (have := hA _ h1; omega); (have := h.2; omega)) | (intro h; rcases h.1 with h1 | h1; (have := h1.2; omega); (have := h.2; omega)) | (intro h; rcases h.1 with h1 | h1; (exact hAS _ h1.1 rfl); (have := h.2; omega)) | (intro h; rcases h with h | h; (have := hA _ h; omega); omega) | (intro h; have := hA _ h; omega) | (intro h; rcases h with h | h; (have := h.2; omega); omega) | exact Ar.nbr | exact Ai.nbr | exact Ar.no (by omega) | exact Ai.no (by omega))
      refine s_end ⟨hS, ?_⟩
      refine d_end (by kernel_rfl) (hK13 _ _ ?_)
      refine hK11 _ _ ?_
      refine wp_region_lit ?_
      refine s_val hF (x_add (by omega) (by omega) rfl rfl) (by decide) fun a hF => ?_
      refine s_val hF (x_move rfl) (by decide) fun a hF => ?_
      refine s_end (hK' _ _ (by omega) ⟨_, by rw [put_len (by rw [hl]; simp only [tc_len]; omega), hl], mm, by rw [htk]; exact (hM.mono fun k h => h.1).snoc hz35 (by rw [hti]; omega) (by rw [hti, hl]; omega), hR, m3, m6, hK, hQ, hF.sub _ rfl⟩)
    · obtain rfl : i = c.kids.length := by omega
      rw [List.take_of_length_le (by rw [CT.folds_len]; exact Nat.le_refl _)] at hM
      have hkv : RKE w (AS A (b6 + 1)) _ (c.folds G d) := (hM.mono fun k h => h.1).rke mm (by rw [hl, CT.folds_len]) (AS.mono (by omega)) (.inr (by omega)) (CT.folds_len G c d).symm
      refine wp_exit (hK3 _ _ ?_)
      refine wp_rs fun K14 hK14 => ?_
      refine s_val hF (x_move rfl) (by decide) fun a hF => ?_
      refine s_val hF (x_ldW wide27 m3 rfl rfl) (by decide) fun a hF => ?_
      refine s_val hF (x_move rfl) (by decide) fun a hF => ?_
      refine s_val hF (x_move rfl) (by decide) fun a hF => ?_
      refine s_callC (R := fun v w' => ((∃ y, v = tv y ∧ RE w' (AS A (b6 + 1)) (G c d (c.folds G d)) y ∧ Tt c y) ∧ Room w' br) ∧ Ktw br br w w') hF [_, _, _] rfl hg rfl (by decide) (HJ _ c x d _ _ _ hK hR hx (by omega) (by omega) (by omega) (by omega) hkv (CT.folds_len G c d)) ?_
      rintro _ w42 a ⟨⟨⟨y42, rfl, hy42, hT42⟩, hR⟩, k42⟩ hF
      have sk42 := k42.size
      have hK := hK.trans k42 (by omega)
      have hQ := hQ.trans k42 (by omega)
      have mm := mm.k2 k42 (by omega)
      have m3 := m3.k2 k42 (by omega)
      have m6 := m6.k2 k42 (by omega)
      refine s_putW hF rfl rfl (size_wide wide27) m6 rfl hy42.one fun w22 m6 o23 => ?_
      have so23 := o23.size
      have hK := hK.only o23 (by omega)
      have hQ := hQ.only o23 (by omega)
      have mm := mm.only o23 (by omega)
      have m3 := m3.only o23 (by omega)
      have hR := hR.only o23 (by omega)
      have hy42 := hy42.only o23 (by first | (intro h; have h2 := h.2; omega) | (intro h; rcases h.1 with h1 | h1; (have := hA _ h1; omega); (have := h.2; omega)) | (intro h; rcases h.1 with h1 | h1; (have := h1.2; omega); (have := h.2; omega)) | (intro h; rcases h.1 with h1 | h1; (exact hAS _ h1.1 rfl); (have := h.2; omega)) | (intro h; rcases h with h | h; (have := hA _ h; omega); omega) | (intro h; have := hA _ h; omega) | (intro h; rcases h with h | h; (have := h.2; omega); omega) | exact Ar.nbr | exact Ai.nbr | exact Ar.no (by omega) | exact Ai.no (by omega))
      refine s_end (hK14 _ _ ?_)
      refine wp_ret (res_cell hF rfl rfl m6 wide27 ⟨_, rfl, ⟨⟨y42, rfl, by rw [CT.fold_eq]; exact hy42.mono (AS.mono (by omega)), hT42⟩, hR⟩, hQ⟩)
  · have hkv : RKE w6 (AS A (b6 + 1)) nilS (c.folds G d) := by have e0 : c.folds G d = [] := List.eq_nil_of_length_eq_zero (by rw [CT.folds_len]; omega); rw [e0]; exact RKE.nil w6 _
    refine wp_rs fun K15 hK15 => ?_
    refine s_val hF (x_move rfl) (by decide) fun a hF => ?_
    refine s_val hF (x_len Try.underlying25 rfl) (by decide) fun a hF => ?_
    refine s_val hF (x_gtr (b := false) (decide_eq_false (by omega)) rfl rfl) (by decide) fun a hF => ?_
    refine s_end (hK15 _ _ ?_)
    refine wp_if hF rfl ?_
    refine wp_skip (hK3 _ _ ?_)
    refine wp_rs fun K16 hK16 => ?_
    refine s_val hF (x_move rfl) (by decide) fun a hF => ?_
    refine s_val hF (x_ldW wide27 m3 rfl rfl) (by decide) fun a hF => ?_
    refine s_val hF (x_move rfl) (by decide) fun a hF => ?_
    refine s_val hF (x_move rfl) (by decide) fun a hF => ?_
    refine s_callC (R := fun v w' => ((∃ y, v = tv y ∧ RE w' (AS A (b6 + 1)) (G c d (c.folds G d)) y ∧ Tt c y) ∧ Room w' br) ∧ Ktw br br w6 w') hF [_, _, _] rfl hg rfl (by decide) (HJ _ c x d _ _ _ hK hR hx (by omega) (by omega) (by omega) (by omega) hkv (CT.folds_len G c d)) ?_
    rintro _ w42 a ⟨⟨⟨y42, rfl, hy42, hT42⟩, hR⟩, k42⟩ hF
    have sk42 := k42.size
    have hK := hK.trans k42 (by omega)
    have hQ := hQ.trans k42 (by omega)
    have m3 := m3.k2 k42 (by omega)
    have m6 := m6.k2 k42 (by omega)
    refine s_putW hF rfl rfl (size_wide wide27) m6 rfl hy42.one fun w26 m6 o27 => ?_
    have so27 := o27.size
    have hK := hK.only o27 (by omega)
    have hQ := hQ.only o27 (by omega)
    have m3 := m3.only o27 (by omega)
    have hR := hR.only o27 (by omega)
    have hy42 := hy42.only o27 (by first | (intro h; have h2 := h.2; omega) | (intro h; rcases h.1 with h1 | h1; (have := hA _ h1; omega); (have := h.2; omega)) | (intro h; rcases h.1 with h1 | h1; (have := h1.2; omega); (have := h.2; omega)) | (intro h; rcases h.1 with h1 | h1; (exact hAS _ h1.1 rfl); (have := h.2; omega)) | (intro h; rcases h with h | h; (have := hA _ h; omega); omega) | (intro h; have := hA _ h; omega) | (intro h; rcases h with h | h; (have := h.2; omega); omega) | exact Ar.nbr | exact Ai.nbr | exact Ar.no (by omega) | exact Ai.no (by omega))
    refine s_end (hK16 _ _ ?_)
    refine wp_ret (res_cell hF rfl rfl m6 wide27 ⟨_, rfl, ⟨⟨y42, rfl, by rw [CT.fold_eq]; exact hy42.mono (AS.mono (by omega)), hT42⟩, hR⟩, hQ⟩)
end Go.Proofs.Ytaclncmkdpjnlaa

namespace Go.Proofs.Ytaclncmkdpjnlaa
open Go.RowKit Go.Shelf
set_option linter.unusedVariables false
set_option linter.unusedSimpArgs false

def enc2 (p : Int × Int) : List Value := [.int .i64 p.1, .int .i64 p.2]
def enc1 (z : Int) : List Value := [.int .i64 z]
set_option maxRecDepth 100000 in
set_option maxHeartbeats 1600000 in
theorem fold119 (wl : World) (g : FuncId) (lb : List Value) (hg : Enters Try.prog g) (D : Int) (hD : D ≤ 4611686018427387904) (Sz : Nat) (G : CT → Int → List (Int × Int) → (Int × Int)) (gv : Value) (hgv : gv = .func (.func g) #[] lb.toArray)
    (HJ : ∀ (W : World) (c : CT) (x : C8) (d : Int) (kv : Value), Below wl.heap.size wl W → RC wl (fun k => k < wl.heap.size) c x → c.size ≤ Sz → 0 ≤ d → d + c.dep ≤ D → Rd W kv 2 c.kids.length ((c.folds G d).flatMap enc2) →
      Calls Try.prog g ([tv x, .int .i64 d, kv] ++ lb).toArray W fun e w' => e = .returned (.agg (enc2 (G c d (c.folds G d))).toArray) ∧ Below W.heap.size W w') :
    ∀ (N : Nat) (c : CT) (x : C8) (d : Int) (W : World), c.size < N → c.size ≤ Sz → RC wl (fun k => k < wl.heap.size) c x → 0 ≤ d → d + c.dep ≤ D → Below wl.heap.size wl W →
      Calls Try.prog 100 #[tv x, .int .i64 d, gv] W fun e w' => e = .returned (.agg (enc2 (c.fold G d)).toArray) ∧ Below W.heap.size W w' := by
  subst hgv
  intro N
  induction N with
  | zero => intro c x d W h; omega
  | succ N ih =>
  intro c x d W hN hSz hx hd0 hdD hK
  have h3 := c.kids_le
  have hdp := c.dep_pos
  have hB := Below.refl W.heap.size W
  have sB := hB.size
  have sK := hK.size
  refine calls_fs 43 [(0, tv x), (1, .int .i64 d), (2, .func (.func g) #[] lb.toArray)] Try.func100 rfl rfl rfl rfl rfl fun a hF => ?_
  refine wp_rs fun K1 hK1 => ?_
  refine s_box (tc x) hF (by decide) rfl rfl fun w2 b3 a eb3 m3 B3 zb3 hF => ?_
  have sB3 := B3.size
  have hK := hK.trans (B3.mono hK.size)
  have hB := hB.trans (B3.mono hB.size)
  refine s_alloc hF (by decide) zero93 fun w4 b6 a eb6 m6 B5 zb6 hF => ?_
  have sB5 := B5.size
  have hK := hK.trans (B5.mono hK.size)
  have hB := hB.trans (B5.mono hB.size)
  have m3 := m3.old B5
  refine s_end (hK1 _ _ ?_)
  refine wp_rs fun K2 hK2 => ?_
  refine s_val hF (x_assign rfl) (by decide) fun a hF => ?_
  refine s_end (hK2 _ _ ?_)
  refine wp_seq_k fun K3 hK3 => ?_
  refine wp_rs fun K4 hK4 => ?_
  refine s_val hF (x_ldW wide27 m3 rfl rfl) (by decide) fun a hF => ?_
  refine s_callR (R := fun v w' => RK wl (fun k => k < wl.heap.size) v c.kids) [_] hF (enters_of Try.func89 (by kernel_rfl) rfl) rfl (by decide) (kidsOf101 c x (fun k => k < wl.heap.size) wl w4 hx) ?_
  rintro v12 w6 a hv12 B7 hF
  have sB7 := B7.size
  have hK := hK.trans (B7.mono hK.size)
  have hB := hB.trans (B7.mono hB.size)
  have m3 := m3.old B7
  have m6 := m6.old B7
  obtain ⟨a12, c12, hve, _⟩ := hv12.form
  subst hve
  refine s_val hF (x_assign rfl) (by decide) fun a hF => ?_
  refine s_end (hK4 _ _ ?_)
  rcases (show 0 < c.kids.length ∨ c.kids.length = 0 by omega) with hk | hk
  · skip
    refine wp_rs fun K6 hK6 => ?_
    refine s_val hF (x_move rfl) (by decide) fun a hF => ?_
    refine s_val hF (x_len Try.underlying25 rfl) (by decide) fun a hF => ?_
    refine s_val hF (x_gtr (b := true) (decide_eq_true (by omega)) rfl rfl) (by decide) fun a hF => ?_
    refine s_end (hK6 _ _ ?_)
    refine wp_if hF rfl ?_
    refine wp_rs fun K7 hK7 => ?_
    refine s_val hF (x_move rfl) (by decide) fun a hF => ?_
    refine s_val hF (x_len Try.underlying25 rfl) (by decide) fun a hF => ?_
    refine s_mkG c.kids.length el122 hF (by decide) rfl rfl (by omega) (by omega) rfl rfl fun w18 bm a cs18 eb18 hl18 mm B18 z18 hF => ?_
    have sB18 := B18.size
    have hK := hK.trans (B18.mono hK.size)
    have hB := hB.trans (B18.mono hB.size)
    have m3 := m3.old B18
    have m6 := m6.old B18
    refine s_val hF (x_assign rfl) (by decide) fun a hF => ?_
    refine s_end (hK7 _ _ ?_)
    refine wp_rs fun K8 hK8 => ?_
    refine s_val hF (x_move rfl) (by decide) fun a hF => ?_
    refine s_val hF (x_len Try.underlying25 rfl) (by decide) fun a hF => ?_
    refine s_val hF (x_move rfl) (by decide) fun a hF => ?_
    refine s_end (hK8 _ _ ?_)
    refine wp_block ?_
    refine wp_up c.kids.length (fun i a w => ∃ cs, cs.length = c.kids.length * 2 ∧ Blk w bm 81 cs ∧ cs.take (i * 2) = ((c.folds G d).take i).flatMap enc2 ∧ Blk w b3 27 (tc x) ∧ Blk w b6 81 [.int .i64 0, .int .i64 0] ∧ Below wl.heap.size wl w ∧ Below W.heap.size W w ∧ Fs 43 a [(1, .int .i64 d), (2, .func (.func g) #[] lb.toArray), (3, .pointer (some ⟨b3, 0, none⟩)), (6, .pointer (some ⟨b6, 0, none⟩)), (7, .slice (some ⟨bm, 0, none⟩) c.kids.length c.kids.length), (19, .slice a12 c.kids.length c12), (20, .int .i64 (c.kids.length : Int)), (21, .int .i64 (i : Int))]) ⟨cs18, hl18, mm, by simp, m3, m6, hK, hB, hF.sub _ rfl⟩ ?_
    clear hF mm m3 m6 hK hB
    rintro i a w hi ⟨cs, hl, mm, hM, m3, m6, hK, hB, hF⟩ K' hK'
    have sK := hK.size
    have sB := hB.size
    have hbmw := mm.lt
    have hb3w := m3.lt
    have hb6w := m6.lt
    refine wp_rs fun K9 hK9 => ?_
    refine s_val hF (x_lss (b := decide (i < c.kids.length)) (decide_eq_decide.2 (by omega)) rfl rfl) (by decide) fun a hF => ?_
    refine s_end (hK9 _ _ ?_)
    refine wp_seq_k fun K10 hK10 => ?_
    refine wp_iff hF rfl (fun hc22 => ?_) (fun hc22 => ?_)
    · obtain ⟨b9, off9, c9, y, kd, hve, hyk, hry, hAb, hbl, hrow⟩ := hv12.row (i := i) (by omega)
      cases hve
      have hks := CT.kid_size hyk
      have hbd := c.bnd_is i
      have htk := take_snoc (CT.folds_get G (d := d) hyk)
      have hti : ((c.folds G d).take i).length = i := by rw [List.length_take, CT.folds_len]; omega
      refine wp_skip (hK10 _ _ ?_)
      refine wp_seq_k fun K11 hK11 => ?_
      refine wp_block ?_
      refine wp_rs fun K12 hK12 => ?_
      refine s_val hF (x_move rfl) (by decide) fun a hF => ?_
      refine s_val hF (x_ixa rfl rfl (m_ixsK i Try.underlying25 el25.size rfl (by omega))) (by decide) fun a hF => ?_
      refine s_val hF (x_ldA wide27 (hrow _ (hK.block _ hbl)) rfl rfl) (by decide) fun a hF => ?_
      refine s_alloc hF (by decide) zero27 fun w8 b10 a eb10 m10 B9 zb10 hF => ?_
      have sB9 := B9.size
      have hK := hK.trans (B9.mono hK.size)
      have hB := hB.trans (B9.mono hB.size)
      have mm := mm.old B9
      have m3 := m3.old B9
      have m6 := m6.old B9
      refine s_val hF (x_assign rfl) (by decide) fun a hF => ?_
      refine s_putW hF rfl rfl (size_wide wide27) m10 rfl hry.one fun w12 m10 o13 => ?_
      have so13 := o13.size
      have hK := hK.trans (o13.below (by omega))
      have hB := hB.trans (o13.below (by omega))
      have mm := mm.only o13 (by omega)
      have m3 := m3.only o13 (by omega)
      have m6 := m6.only o13 (by omega)
      refine s_end (hK12 _ _ ?_)
      refine dk2_one (bm) (bm) (ops := regOps Try.f100 8) (N := 12) (by kernel_rfl) wide_orders (by kernel_rfl) fun w14 hw14 B15 hS K13 hK13 => ?_
      have zw14 : w14.heap.size = w12.heap.size := by rw [hw14]
      have sB15 := B15.size
      have hK := hK.trans (B15.mono hK.size)
      have hB := hB.trans (B15.mono hB.size)
      have mm := mm.old B15
      have m3 := m3.old B15
      have m6 := m6.old B15
      have m10 := m10.old B15
      have mm_d := mm
      have m3_d := m3
      have m6_d := m6
      have m10_d := m10
      have hK_d := hK
      have hB_d := hB
      refine d_val 0 26 (op := (Go.Op.move (Go.Operand.tmp 7))) hF hS (by kernel_rfl) (fun W hW => x_move rfl) (by kernel_rfl) (by decide) fun a hF => ?_
      refine d_val 1 27 (op := (Go.Op.move (Go.Operand.tmp 9))) hF hS (by kernel_rfl) (fun W hW => x_move rfl) (by kernel_rfl) (by decide) fun a hF => ?_
      refine d_val 2 28 (op := (Go.Op.load 27 (Go.Operand.tmp 10))) hF hS (by kernel_rfl) (fun W hW => x_ldW wide27 (m10_d.k2 hW (by omega)) rfl rfl) (by kernel_rfl) (by decide) fun a hF => ?_
      refine d_val 3 29 (op := (Go.Op.move (Go.Operand.tmp 1))) hF hS (by kernel_rfl) (fun W hW => x_move rfl) (by kernel_rfl) (by decide) fun a hF => ?_
      refine d_val 4 30 (op := (Go.Op.load 27 (Go.Operand.tmp 3))) hF hS (by kernel_rfl) (fun W hW => x_ldW wide27 (m3_d.k2 hW (by omega)) rfl rfl) (by kernel_rfl) (by decide) fun a hF => ?_
      refine d_val 5 31 (op := (Go.Op.move (Go.Operand.tmp 9))) hF hS (by kernel_rfl) (fun W hW => x_move rfl) (by kernel_rfl) (by decide) fun a hF => ?_
      refine d_val 8 34 (op := (Go.Op.move (Go.Operand.tmp 2))) hF hS (by kernel_rfl) (fun W hW => x_move rfl) (by kernel_rfl) (by decide) fun a hF => ?_
      refine d_one 6 (some 32) (Go.Op.call (Go.Call.mk (Go.Callee.value (Go.Operand.func 107)) #[(Go.Operand.tmp 30), (Go.Operand.tmp 31)] #[27, 3])) (by kernel_rfl) (by kernel_rfl) fun ty pos af => ?_
      refine s_callB [_, _] hF (enters_of Try.func107 (by kernel_rfl) rfl) rfl (by decide) (binds112 c x (fun k => k < wl.heap.size) i wl w14 hx (by omega)) fun w16 a B17 hF => ?_
      have sB17 := B17.size
      have hK := hK.trans (B17.mono hK.size)
      have hB := hB.trans (B17.mono hB.size)
      have mm := mm.old B17
      have m3 := m3.old B17
      have m6 := m6.old B17
      have m10 := m10.old B17
      have hS := hS.below B17
      refine s_end ⟨hS, ?_⟩
      refine d_val 7 33 (op := (Go.Op.binOp Go.BinOp.add 3 (Go.Operand.tmp 29) (Go.Operand.tmp 32) 3)) hF hS (by kernel_rfl) (fun W hW => x_add (by omega) (by omega) rfl rfl) (by kernel_rfl) (by decide) fun a hF => ?_
      refine d_one 9 (some 35) (Go.Op.call (Go.Call.mk (Go.Callee.value (Go.Operand.func 100)) #[(Go.Operand.tmp 28), (Go.Operand.tmp 33), (Go.Operand.tmp 34)] #[27, 3, 120])) (by kernel_rfl) (by kernel_rfl) fun ty pos af => ?_
      refine s_callB [_, _, _] hF (enters_of Try.func100 (by kernel_rfl) rfl) rfl (by decide) (ih kd y (d + c.bnd i) w16 (by omega) (by omega) hry (by omega) (by omega) hK) fun w18 a B19 hF => ?_
      have sB19 := B19.size
      have hK := hK.trans (B19.mono hK.size)
      have hB := hB.trans (B19.mono hB.size)
      have mm := mm.old B19
      have m3 := m3.old B19
      have m6 := m6.old B19
      have m10 := m10.old B19
      have hS := hS.below B19
      refine s_end ⟨hS, ?_⟩
      refine d_val 10 36 (op := (Go.Op.indexAddr 118 (Go.Operand.tmp 26) (Go.Operand.tmp 27))) hF hS (by kernel_rfl) (fun W hW => x_ixa rfl rfl (m_ixsK i Try.underlying118 el122.size rfl (by omega))) (by kernel_rfl) (by decide) fun a hF => ?_
      refine d_one 11 none (Go.Op.store 81 (Go.Operand.tmp 36) (Go.Operand.tmp 35)) (by kernel_rfl) (by kernel_rfl) fun ty pos af => ?_
      refine s_putP (vs := enc2 _) hF rfl rfl (size_wide wide93) mm (by rw [hl]; simp only [enc2, List.length_cons, List.length_nil]; omega) (oneII _ _) fun w40 mm o40 => ?_
      have so40 := o40.size
      have hK := hK.trans (o40.below (by omega))
      have hB := hB.trans (o40.below (by omega))
      have m3 := m3.only o40 (by omega)
      have m6 := m6.only o40 (by omega)
      have m10 := m10.only o40 (by omega)
      have hS := hS.only o40 (by omega)
      refine s_end ⟨hS, ?_⟩
      refine d_end (by kernel_rfl) (hK13 _ _ ?_)
      refine hK11 _ _ ?_
      refine wp_region_lit ?_
      refine s_val hF (x_add (by omega) (by omega) rfl rfl) (by decide) fun a hF => ?_
      refine s_val hF (x_move rfl) (by decide) fun a hF => ?_
      refine s_end (hK' _ _ (by omega) ⟨_, by rw [put_len (by rw [hl]; simp only [enc2, List.length_cons, List.length_nil]; omega), hl], mm, by rw [htk, List.flatMap_append, ← hM, show (i + 1) * 2 = (0 + i * 2) + (enc2 (kd.fold G (d + c.bnd i))).length by simp only [enc2, List.length_cons, List.length_nil]; omega, take_put (by rw [hl]; omega), Nat.zero_add]; simp, m3, m6, hK, hB, hF.sub _ rfl⟩)
    · obtain rfl : i = c.kids.length := by omega
      rw [List.take_of_length_le (by rw [hl]; exact Nat.le_refl _), List.take_of_length_le (by rw [CT.folds_len]; exact Nat.le_refl _)] at hM
      have hkv : Rd w (.slice (some ⟨bm, 0, none⟩) c.kids.length c.kids.length) 2 c.kids.length ((c.folds G d).flatMap enc2) := by rw [← hM]; exact Rd.blk mm hl
      refine wp_exit (hK3 _ _ ?_)
      refine wp_rs fun K14 hK14 => ?_
      refine s_val hF (x_move rfl) (by decide) fun a hF => ?_
      refine s_val hF (x_ldW wide27 m3 rfl rfl) (by decide) fun a hF => ?_
      refine s_val hF (x_move rfl) (by decide) fun a hF => ?_
      refine s_val hF (x_move rfl) (by decide) fun a hF => ?_
      refine s_callC (R := fun v w' => v = .agg (enc2 (G c d (c.folds G d))).toArray ∧ Below w.heap.size w w') hF [_, _, _] rfl hg rfl (by decide) ((HJ _ c x d _ hK hx hSz (by omega) (by omega) hkv).mono fun e w' h => ⟨_, h.1, rfl, h.2⟩) ?_
      rintro _ w42 a ⟨rfl, B42⟩ hF
      have sB42 := B42.size
      have hK := hK.trans (B42.mono hK.size)
      have hB := hB.trans (B42.mono hB.size)
      have mm := mm.old B42
      have m3 := m3.old B42
      have m6 := m6.old B42
      refine s_putW hF rfl rfl (size_wide wide93) m6 rfl (oneII _ _) fun w22 m6 o23 => ?_
      have so23 := o23.size
      have hK := hK.trans (o23.below (by omega))
      have hB := hB.trans (o23.below (by omega))
      have mm := mm.only o23 (by omega)
      have m3 := m3.only o23 (by omega)
      refine s_end (hK14 _ _ ?_)
      refine wp_ret (res_cell (cs := enc2 _) hF rfl rfl m6 wide93 ⟨by rw [CT.fold_eq], hB⟩)
  · have hkv : Rd w6 nilS 2 c.kids.length ((c.folds G d).flatMap enc2) := by have e0 : c.folds G d = [] := List.eq_nil_of_length_eq_zero (by rw [CT.folds_len]; omega); rw [e0, hk]; exact Rd.nil w6 2
    refine wp_rs fun K15 hK15 => ?_
    refine s_val hF (x_move rfl) (by decide) fun a hF => ?_
    refine s_val hF (x_len Try.underlying25 rfl) (by decide) fun a hF => ?_
    refine s_val hF (x_gtr (b := false) (decide_eq_false (by omega)) rfl rfl) (by decide) fun a hF => ?_
    refine s_end (hK15 _ _ ?_)
    refine wp_if hF rfl ?_
    refine wp_skip (hK3 _ _ ?_)
    refine wp_rs fun K16 hK16 => ?_
    refine s_val hF (x_move rfl) (by decide) fun a hF => ?_
    refine s_val hF (x_ldW wide27 m3 rfl rfl) (by decide) fun a hF => ?_
    refine s_val hF (x_move rfl) (by decide) fun a hF => ?_
    refine s_val hF (x_move rfl) (by decide) fun a hF => ?_
    refine s_callC (R := fun v w' => v = .agg (enc2 (G c d (c.folds G d))).toArray ∧ Below w6.heap.size w6 w') hF [_, _, _] rfl hg rfl (by decide) ((HJ _ c x d _ hK hx hSz (by omega) (by omega) hkv).mono fun e w' h => ⟨_, h.1, rfl, h.2⟩) ?_
    rintro _ w42 a ⟨rfl, B42⟩ hF
    have sB42 := B42.size
    have hK := hK.trans (B42.mono hK.size)
    have hB := hB.trans (B42.mono hB.size)
    have m3 := m3.old B42
    have m6 := m6.old B42
    refine s_putW hF rfl rfl (size_wide wide93) m6 rfl (oneII _ _) fun w26 m6 o27 => ?_
    have so27 := o27.size
    have hK := hK.trans (o27.below (by omega))
    have hB := hB.trans (o27.below (by omega))
    have m3 := m3.only o27 (by omega)
    refine s_end (hK16 _ _ ?_)
    refine wp_ret (res_cell (cs := enc2 _) hF rfl rfl m6 wide93 ⟨by rw [CT.fold_eq], hB⟩)

end Go.Proofs.Ytaclncmkdpjnlaa

namespace Go.Proofs.Ytaclncmkdpjnlaa
open Go.RowKit Go.Shelf
set_option linter.unusedVariables false
set_option linter.unusedSimpArgs false
section
variable {P : Program} {ops : Array Oper} {n d : Nat} {l : List (Nat × Value)} {w : World} {a : Act} {Q : Exit → Act → World → Prop} {rest : List Oper} {ty : TypeId} {pos : String} {af : Array Edge} {x y : Operand} {t e k kb base m o : Nat} {v : Value} {xs ys : List Value}
theorem s_appL {ds : List Deferred} {bu : Nat} (hE : Elem P t e k kb) (hF : Fs n a l (ds := ds)) (hd : d < n) (hx : ov l x = some v) (hy : ov l y = some (.slice (some ⟨bu, 0, none⟩) 1 1)) (hO : w.ownsRow base e k v m xs) (hU : Blk w bu e ys) (hl : ys.length = k) (h1 : ∀ u ∈ ys, u.oneCell' = true) (hat : ∀ j, v.ownBlock = some j → j = o) (ho : o < w.heap.size) (hm : m ≤ 100000000) (hkb : kb ≤ 1000) (hb : base ≤ w.heap.size)
    (h : ∀ v' w' a' o', w'.ownsRow base e k v' (m + 1) (xs ++ ys) → (∀ j, v'.ownBlock = some j → j = o') → ((o' = o ∨ w.heap.size ≤ o') ∧ o' < w'.heap.size) → (∀ j, v'.ownBlock = some j → v.ownBlock = some j ∨ w.heap.size ≤ j) → Ktw o o w w' → (∀ j, j < w.heap.size → v.ownBlock ≠ some j → w'.heap[j]? = w.heap[j]?) → Fs n a' ((d, v') :: l) (ds := ds) → wpList P ops Q rest a' w') :
    wpList P ops Q (⟨some d, .call { callee := .builtin .append, args := #[x, y], argTypes := #[t, t] }, ty, pos, af, none⟩ :: rest) a w := by
  have hR : Rd w (.slice (some ⟨bu, 0, none⟩) 1 1) k 1 ys := Rd.blk hU (by omega)
  refine s_appG hE hF hd hx hy hO hR h1 ?_ (by simp only [maxLen]; omega) hb fun v' w' a' hO' hg hw hF' => ?_
  · have : (m + 1) * kb ≤ 100000001 * 1000 := Nat.mul_le_mul (by omega) hkb
    omega
  · have hK : Ktw o o w w' := ⟨hg.os, hg.tape, hg.output, hg.size, fun j hj hne => hg.block j hj (fun e => by have := hat j e.symm; omega)⟩
    have hkeep : ∀ j, j < w.heap.size → v.ownBlock ≠ some j → w'.heap[j]? = w.heap[j]? := fun j hj hne => hg.block j hj (fun e => hne e.symm)
    cases hv : v'.ownBlock with
    | none => exact h v' w' a' o hO' (fun j hj => by rw [hv] at hj; cases hj) ⟨.inl rfl, Nat.lt_of_lt_of_le ho hg.size⟩ hw hK hkeep hF'
    | some q =>
      refine h v' w' a' q hO' (fun j hj => by rw [hv] at hj; exact (Option.some.inj hj).symm) ⟨?_, (hO'.lt q hv).2⟩ hw hK hkeep hF'
      rcases hw q hv with h1 | h1
      · exact .inl (hat q h1)
      · exact .inr h1
end

mutual
def Lv.sz : Lv → Nat
  | .mk _ _ ls => Lv.szs ls + 1
def Lv.szs : List Lv → Nat
  | [] => 0
  | l :: ls => l.sz + Lv.szs ls
end
theorem szs_app : ∀ (xs ys : List Lv), Lv.szs (xs ++ ys) = Lv.szs xs + Lv.szs ys
  | [], ys => by simp [Lv.szs]
  | x :: xs, ys => by simp [Lv.szs, szs_app xs ys]; omega
theorem szs_take {ls : List Lv} {i : Nat} {p : Lv} (h : ls[i]? = some p) : Lv.szs (ls.take (i + 1)) = Lv.szs (ls.take i) + p.sz := by
  rw [take_snoc h, szs_app]; simp [Lv.szs]
theorem szs_le (ls : List Lv) (i : Nat) : Lv.szs (ls.take i) ≤ Lv.szs ls := by
  have := szs_app (ls.take i) (ls.drop i)
  rw [List.take_append_drop] at this
  omega
theorem Lv.sz_pos : ∀ l : Lv, 1 ≤ l.sz
  | .mk _ _ _ => by simp [Lv.sz]
theorem szs_len : ∀ ls : List Lv, ls.length ≤ Lv.szs ls
  | [] => Nat.le_refl _
  | l :: ls => by have := szs_len ls; have := l.sz_pos; simp [Lv.szs]; omega
theorem cpys_map : ∀ ls : List Lv, cpys ls = ls.map cpy
  | [] => rfl
  | l :: ls => by simp [cpys, cpys_map ls]
/-- Levels of whatever form, one behind the other. -/
def QL (W : World) (A : Nat → Prop) (zs : List C3) (ps : List Lv) : Prop := zs.length = ps.length ∧ ∀ (j : Nat) z p, zs[j]? = some z → ps[j]? = some p → RLn W A z p
section
variable {W W' : World} {A B : Nat → Prop} {zs : List C3} {ps : List Lv}
theorem QL.nil : QL W A [] [] := ⟨rfl, fun j z p h => by simp at h⟩
theorem QL.mono (h : QL W A zs ps) (hm : ∀ k, A k → B k) : QL W B zs ps := ⟨h.1, fun j z p h1 h2 => (h.2 j z p h1 h2).mono hm⟩
theorem QL.valid (h : QL W A zs ps) : QL W (fun k => A k ∧ k < W.heap.size) zs ps := ⟨h.1, fun j z p h1 h2 => (h.2 j z p h1 h2).valid⟩
theorem QL.keep (h : QL W A zs ps) (hs : W.heap.size ≤ W'.heap.size) (hk : ∀ k, A k → k < W.heap.size → W'.heap[k]? = W.heap[k]?) : QL W' A zs ps := ⟨h.1, fun j z p h1 h2 => RLn.keep hs hk (h.2 j z p h1 h2)⟩
theorem QL.below (h : QL W A zs ps) (hB : Below W.heap.size W W') : QL W' A zs ps := h.keep hB.size fun k _ hk => hB.block k hk
theorem QL.only {c : Nat} (h : QL W A zs ps) (o : Only c W W') (hc : ∀ k, A k → k ≠ c) : QL W' A zs ps := h.keep (Nat.le_of_eq o.size.symm) fun k ha _ => o.block k (hc k ha)
theorem QL.k2 {a b : Nat} (h : QL W A zs ps) (hK : Ktw a b W W') (hc : ∀ k, A k → k ≠ a ∧ k ≠ b) : QL W' A zs ps := h.keep hK.size fun k ha hk => hK.block k hk (hc k ha)
theorem QL.snoc {z : C3} {p : Lv} (h : QL W A zs ps) (hz : RLn W A z p) : QL W A (zs ++ [z]) (ps ++ [p]) := by
  refine ⟨by simp [h.1], fun j y q e1 e2 => ?_⟩
  rcases Nat.lt_trichotomy j zs.length with hj | hj | hj
  · rw [List.getElem?_append_left hj] at e1
    rw [List.getElem?_append_left (by have := h.1; omega)] at e2
    exact h.2 j y q e1 e2
  · subst hj
    rw [List.getElem?_append_right (Nat.le_refl _)] at e1
    rw [h.1, List.getElem?_append_right (Nat.le_refl _)] at e2
    simp at e1 e2
    subst e1 e2
    exact hz
  · rw [List.getElem?_eq_none (by simp; omega)] at e1
    cases e1
end
/-- RLn, by another name. -/
def RLx (W : World) (A : Nat → Prop) (x : C3) (l : Lv) : Prop := RLn W A x l
section
variable {W W' : World} {A B : Nat → Prop} {x : C3} {l : Lv}
theorem RLx.below (h : RLx W A x l) (hB : Below W.heap.size W W') : RLx W' A x l := RLn.keep hB.size (fun k _ hk => hB.block k hk) h
theorem RLx.only {c : Nat} (h : RLx W A x l) (o : Only c W W') (hc : ∀ k, A k → k ≠ c) : RLx W' A x l := RLn.keep (Nat.le_of_eq o.size.symm) (fun k ha _ => o.block k (hc k ha)) h
theorem RLx.k2 {a b : Nat} (h : RLx W A x l) (hK : Ktw a b W W') (hc : ∀ k, A k → k ≠ a ∧ k ≠ b) : RLx W' A x l := RLn.keep hK.size (fun k ha hk => hK.block k hk (hc k ha)) h
theorem RLx.mono (h : RLx W A x l) (hm : ∀ k, A k → B k) : RLx W B x l := RLn.mono hm h
theorem RLx.valid (h : RLx W A x l) : RLx W (fun k => A k ∧ k < W.heap.size) x l := RLn.valid h
theorem RLx.rl (h : RLx W A x l) : RL W x l := RLn.rl h
theorem RL_b {W W' : World} {x : C3} {l : Lv} (hB : Below W.heap.size W W') (h : RL W x l) : RL W' x l := h.old hB
end

set_option maxRecDepth 100000 in
set_option maxHeartbeats 400000 in
theorem fitsL154 (w0 : World) (g : Nat) (hg : w0.heap.size ≤ g) : ∀ (N : Nat) (l : Lv) (x : C3), l.sz < N → RL w0 x l → ∀ (d r : Nat) (w1 : World), d ≤ 100000 → r ≤ 100000000 → Below w0.heap.size w0 w1 → Blk w1 g 3 [.int .i64 (r : Int)] →
    Calls Try.prog 140 #[lv x, .int .i64 (d : Int), .pointer (some ⟨g, 0, none⟩)] w1 fun e w' => ∃ u, e = .returned u ∧ (∃ b r', u = .bool b ∧ Blk w' g 3 [.int .i64 ((r' : Nat) : Int)] ∧ (b = true → r' + l.sz = r) ∧ r' ≤ r) ∧ Ktw g g w1 w' := by
  intro N
  induction N with
  | zero => intro s x h; omega
  | succ N ih =>
  rintro l ⟨k, n, v⟩ hN hL d r w1 hd1 hr1 hB mg
  cases hL with
  | @mk _ _ _ xs ls hR hl hk =>
  obtain ⟨av, cv, rfl, _⟩ := hR.form
  have hK := Ktw.refl g g w1
  have sB := hB.size
  have hgl := mg.lt
  have hsz : (Lv.mk k n ls).sz = Lv.szs ls + 1 := rfl
  refine calls_fs 36 [(0, .agg [.int .i64 k, .int .i64 n, .slice av xs.length cv].toArray), (1, .int .i64 (d : Int)), (2, .pointer (some ⟨g, 0, none⟩))] Try.func140 rfl rfl rfl rfl rfl fun a hF => ?_
  refine wp_rs fun K1 hK1 => ?_
  refine s_box ([.int .i64 k, .int .i64 n, .slice av xs.length cv]) hF (by decide) rfl rfl fun w2 b3 a eb3 m3 B3 zb3 hF => ?_
  have sB3 := B3.size
  have hB := hB.trans (B3.mono hB.size)
  have hK := hK.below B3
  have mg := mg.old B3
  refine s_val hF (x_assign rfl) (by decide) fun a hF => ?_
  refine s_end (hK1 _ _ ?_)
  refine wp_seq_k fun K2 hK2 => ?_
  rcases (show d = 0 ∨ (d ≠ 0 ∧ r = 0) ∨ (d ≠ 0 ∧ r ≠ 0) by omega) with hk9 | hk9 | hk9
  · skip
    refine wp_rs fun K4 hK4 => ?_
    refine s_val hF (x_move rfl) (by decide) fun a hF => ?_
    refine s_val hF (x_eql (b := true) (decide_eq_true (by omega)) rfl rfl) (by decide) fun a hF => ?_
    refine s_val hF (x_move rfl) (by decide) fun a hF => ?_
    refine s_grdn 11 hF rfl rfl (by decide) fun a hF => ?_
    refine s_grdn 11 hF rfl rfl (by decide) fun a hF => ?_
    refine s_grdn 11 hF rfl rfl (by decide) fun a hF => ?_
    refine s_grdn 11 hF rfl rfl (by decide) fun a hF => ?_
    refine s_val hF (x_pick (b := true) rfl rfl) (by decide) fun a hF => ?_
    refine s_end (hK4 _ _ ?_)
    refine wp_if hF rfl ?_
    refine wp_rs fun K5 hK5 => ?_
    refine s_val hF (x_assign rfl) (by decide) fun a hF => ?_
    refine s_end (hK5 _ _ ?_)
    refine wp_ret (then_ret (res_slot hF rfl rfl ⟨_, rfl, ⟨false, r, rfl, mg, (fun h => by cases h), Nat.le_refl _⟩, hK⟩))
  · skip
    refine wp_rs fun K6 hK6 => ?_
    refine s_val hF (x_move rfl) (by decide) fun a hF => ?_
    refine s_val hF (x_eql (b := false) (decide_eq_false (by omega)) rfl rfl) (by decide) fun a hF => ?_
    refine s_val hF (x_move rfl) (by decide) fun a hF => ?_
    refine s_grd 11 hF rfl rfl rfl ?_
    refine s_val hF (x_move rfl) (by decide) fun a hF => ?_
    refine s_grd 11 hF rfl rfl rfl ?_
    refine s_val hF (x_nil rfl) (by decide) fun a hF => ?_
    refine s_grd 11 hF rfl rfl rfl ?_
    refine s_val hF (x_load rfl (m_load flat3 (mg.cell (j := 0) rfl))) (by decide) fun a hF => ?_
    refine s_grd 11 hF rfl rfl rfl ?_
    refine s_val hF (x_eql (b := true) (decide_eq_true (by omega)) rfl rfl) (by decide) fun a hF => ?_
    refine s_val hF (x_pick (b := false) rfl rfl) (by decide) fun a hF => ?_
    refine s_end (hK6 _ _ ?_)
    refine wp_if hF rfl ?_
    refine wp_rs fun K7 hK7 => ?_
    refine s_val hF (x_assign rfl) (by decide) fun a hF => ?_
    refine s_end (hK7 _ _ ?_)
    refine wp_ret (then_ret (res_slot hF rfl rfl ⟨_, rfl, ⟨false, r, rfl, mg, (fun h => by cases h), Nat.le_refl _⟩, hK⟩))
  · skip
    refine wp_rs fun K8 hK8 => ?_
    refine s_val hF (x_move rfl) (by decide) fun a hF => ?_
    refine s_val hF (x_eql (b := false) (decide_eq_false (by omega)) rfl rfl) (by decide) fun a hF => ?_
    refine s_val hF (x_move rfl) (by decide) fun a hF => ?_
    refine s_grd 11 hF rfl rfl rfl ?_
    refine s_val hF (x_move rfl) (by decide) fun a hF => ?_
    refine s_grd 11 hF rfl rfl rfl ?_
    refine s_val hF (x_nil rfl) (by decide) fun a hF => ?_
    refine s_grd 11 hF rfl rfl rfl ?_
    refine s_val hF (x_load rfl (m_load flat3 (mg.cell (j := 0) rfl))) (by decide) fun a hF => ?_
    refine s_grd 11 hF rfl rfl rfl ?_
    refine s_val hF (x_eql (b := false) (decide_eq_false (by omega)) rfl rfl) (by decide) fun a hF => ?_
    refine s_val hF (x_pick (b := false) rfl rfl) (by decide) fun a hF => ?_
    refine s_end (hK8 _ _ ?_)
    refine wp_if hF rfl ?_
    refine wp_skip (hK2 _ _ ?_)
    refine wp_rs fun K9 hK9 => ?_
    refine s_val hF (x_move rfl) (by decide) fun a hF => ?_
    refine s_val hF (x_nil rfl) (by decide) fun a hF => ?_
    refine s_val hF (x_load rfl (m_load flat3 (mg.cell (j := 0) rfl))) (by decide) fun a hF => ?_
    refine s_val hF (x_subn (r - 1) (by omega) (by omega) rfl rfl) (by decide) fun a hF => ?_
    refine s_val hF (x_nil rfl) (by decide) fun a hF => ?_
    refine s_put hF rfl rfl flat3 mg (by first | (simp; done) | (simp [tc, lc]; done) | decide) rfl fun w4 mg o5 => ?_
    have so5 := o5.size
    have hB := hB.trans (o5.below (by omega))
    have hK := hK.only o5 (by omega)
    have m3 := m3.only o5 (by omega)
    refine s_end (hK9 _ _ ?_)
    refine wp_seq_k fun K10 hK10 => ?_
    refine wp_rs fun K11 hK11 => ?_
    refine s_val hF (x_fa0 fa24_2 rfl) (by decide) fun a hF => ?_
    refine s_val hF (x_load rfl (m_load flat22 (m3.cell (j := 2) rfl))) (by decide) fun a hF => ?_
    refine s_val hF (x_len Try.underlying22 rfl) (by decide) fun a hF => ?_
    refine s_val hF (x_move rfl) (by decide) fun a hF => ?_
    refine s_end (hK11 _ _ ?_)
    refine wp_block ?_
    refine wp_up xs.length (fun i a w => ∃ r2 : Nat, Blk w g 3 [.int .i64 (r2 : Int)] ∧ r2 + Lv.szs (ls.take i) + 1 = r ∧ Below w0.heap.size w0 w ∧ Ktw g g w1 w ∧ Fs 36 a [(25, .int .i64 (i : Int)), (24, .int .i64 (xs.length : Int)), (23, .slice av xs.length cv), (1, .int .i64 (d : Int)), (2, .pointer (some ⟨g, 0, none⟩))]) ⟨r - 1, mg, by simp [Lv.szs]; omega, hB, hK, hF.sub _ rfl⟩ ?_
    repeat clear hF
    clear hB hK mg
    rintro i a w hi ⟨r2, mg, hr2, hB, hK, hF⟩ K' hK'
    have sB := hB.size
    have sK := hK.size
    have hgl := mg.lt
    have hsl := szs_le ls i
    have hli := szs_len (ls.take i)
    rw [List.length_take] at hli
    refine wp_rs fun K12 hK12 => ?_
    refine s_val hF (x_lss rfl rfl rfl) (by decide) fun a hF => ?_
    refine s_end (hK12 _ _ ?_)
    refine wp_seq_k fun K13 hK13 => ?_
    refine wp_iff hF rfl (fun hc26 => ?_) (fun hc26 => ?_)
    · obtain ⟨b, off, c, y, hve, hy, hrow⟩ := rd_row3 hR (i := i) (by omega)
      cases hve
      obtain ⟨p, hp⟩ : ∃ p, ls[i]? = some p := ⟨_, List.getElem?_eq_getElem (by omega)⟩
      have hst := szs_take hp
      have hsl1 := szs_le ls (i + 1)
      have h1y := (hk i y p hy hp).one1
      refine wp_skip (hK13 _ _ ?_)
      refine wp_seq_k fun K14 hK14 => ?_
      refine wp_block ?_
      refine wp_rs fun K15 hK15 => ?_
      refine s_val hF (x_ixa rfl rfl (m_ixsK i Try.underlying22 el22.size rfl (by omega))) (by decide) fun a hF => ?_
      refine s_val hF (x_ldA wide24 (hrow _ hB) rfl rfl) (by decide) fun a hF => ?_
      refine s_alloc hF (by decide) zero24 fun w6 b8 a eb8 m8 B7 zb8 hF => ?_
      have sB7 := B7.size
      have hB := hB.trans (B7.mono hB.size)
      have hK := hK.below B7
      have mg := mg.old B7
      refine s_putW hF rfl rfl (size_wide wide24) m8 rfl (one_lc h1y) fun w10 m8 o11 => ?_
      have so11 := o11.size
      have hB := hB.trans (o11.below (by omega))
      have hK := hK.only o11 (by omega)
      have mg := mg.only o11 (by omega)
      refine s_end (hK15 _ _ ?_)
      refine wp_rs fun K16 hK16 => ?_
      refine s_val hF (x_ldW wide24 m8 rfl rfl) (by decide) fun a hF => ?_
      refine s_val hF (x_move rfl) (by decide) fun a hF => ?_
      refine s_val hF (x_subn (d - 1) (by omega) (by omega) rfl rfl) (by decide) fun a hF => ?_
      refine s_val hF (x_move rfl) (by decide) fun a hF => ?_
      refine s_call (R := fun u w' => (∃ b r', u = .bool b ∧ Blk w' g 3 [.int .i64 ((r' : Nat) : Int)] ∧ (b = true → r' + p.sz = r2) ∧ r' ≤ r2) ∧ Ktw g g w10 w') hF [_, _, _] (enters_of Try.func140 (by kernel_rfl) rfl) rfl (by decide) (ih p y (by omega) (hk i y p hy hp) (d - 1) r2 w10 (by omega) (by omega) hB mg) ?_
      rintro _ w12 a ⟨⟨b33, r3, rfl, mg, h33, h33r⟩, k13⟩ hF
      have sk13 := k13.size
      have hB := k13.under hB (by omega)
      have hK := hK.trans k13 (by omega)
      have m8 := m8.k2 k13 (by omega)
      refine s_val hF (x_not rfl) (by decide) fun a hF => ?_
      refine s_end (hK16 _ _ ?_)
      refine wp_ifb hF rfl (fun hc34 => ?_) (fun hc34 => ?_)
      · refine wp_rs fun K17 hK17 => ?_
        refine s_val hF (x_assign rfl) (by decide) fun a hF => ?_
        refine s_end (hK17 _ _ ?_)
        refine wp_ret (inb_ret (then_ret (then_ret (inb_ret (then_ret (res_slot hF rfl rfl ⟨_, rfl, ⟨false, r3, rfl, mg, (fun h => by cases h), by omega⟩, hK⟩))))))
      · obtain rfl : b33 = true := by simpa using hc34
        have h34 := h33 rfl
        refine wp_skip (hK14 _ _ ?_)
        refine wp_region_lit ?_
        refine s_val hF (x_addn (i + 1) (by omega) (by omega) rfl rfl) (by decide) fun a hF => ?_
        refine s_val hF (x_move rfl) (by decide) fun a hF => ?_
        refine s_end (hK' _ _ (by omega) ⟨r3, mg, by omega, hB, hK, hF.sub _ rfl⟩)
    · have hall : ls.take i = ls := List.take_of_length_le (by omega)
      rw [hall] at hr2
      refine wp_exit (hK10 _ _ ?_)
      refine wp_rs fun K18 hK18 => ?_
      refine s_val hF (x_assign rfl) (by decide) fun a hF => ?_
      refine s_end (hK18 _ _ ?_)
      refine wp_ret (res_slot hF rfl rfl ⟨_, rfl, ⟨true, r2, rfl, mg, (fun _ => by omega), by omega⟩, hK⟩)

set_option maxRecDepth 100000 in
set_option maxHeartbeats 400000 in
theorem copiedL155 : ∀ (N : Nat) (l : Lv) (x : C3) (w0 : World), l.sz < N → l.sz ≤ 100000000 → RL w0 x l → Calls Try.prog 141 #[lv x] w0 fun e w' => ∃ u, e = .returned u ∧ (∃ z, u = lv z ∧ RLn w' (fun k => w0.heap.size ≤ k) z (cpy l)) ∧ Below w0.heap.size w0 w' := by
  intro N
  induction N with
  | zero => intro s x w0 h; omega
  | succ N ih =>
  rintro l ⟨k, n, v⟩ w0 hN hsz0 hS
  cases hS with
  | @mk _ _ _ xs ls hR hl hk =>
  obtain ⟨av, cv, rfl, _⟩ := hR.form
  have hsz : (Lv.mk k n ls).sz = Lv.szs ls + 1 := rfl
  have hle := szs_len ls
  have hB := Below.refl w0.heap.size w0
  have sB := hB.size
  refine calls_fs 37 [(0, .agg [.int .i64 k, .int .i64 n, .slice av xs.length cv].toArray)] Try.func141 rfl rfl rfl rfl rfl fun a hF => ?_
  refine wp_rs fun K1 hK1 => ?_
  refine s_box ([.int .i64 k, .int .i64 n, .slice av xs.length cv]) hF (by decide) rfl rfl fun w2 b1 a eb1 m1 B3 zb1 hF => ?_
  have sB3 := B3.size
  have hB := hB.trans (B3.mono hB.size)
  refine s_alloc hF (by decide) zero24 fun w4 b2 a eb2 m2 B5 zb2 hF => ?_
  have sB5 := B5.size
  have hB := hB.trans (B5.mono hB.size)
  have m1 := m1.old B5
  refine s_end (hK1 _ _ ?_)
  refine wp_rs fun K2 hK2 => ?_
  refine s_val hF (x_fa0 fa24_0 rfl) (by decide) fun a hF => ?_
  refine s_val hF (x_load rfl (m_load flat3 (m1.cell (j := 0) rfl))) (by decide) fun a hF => ?_
  refine s_val hF (x_build (vs := [(0, _)]) rfl (b24_0 _ _)) (by decide) fun a hF => ?_
  refine s_alloc hF (by decide) zero24 fun w6 b3 a eb3 m3 B7 zb3 hF => ?_
  have sB7 := B7.size
  have hB := hB.trans (B7.mono hB.size)
  have m1 := m1.old B7
  have m2 := m2.old B7
  refine s_putW hF rfl rfl (size_wide wide24) m3 rfl (one3 rfl) fun w10 m3 o11 => ?_
  have so11 := o11.size
  have hB := hB.trans (o11.below (by omega))
  have m1 := m1.only o11 (by omega)
  have m2 := m2.only o11 (by omega)
  refine s_end (hK2 _ _ ?_)
  refine wp_seq_k fun K3 hK3 => ?_
  refine wp_rs fun K4 hK4 => ?_
  refine s_val hF (x_fa0 fa24_0 rfl) (by decide) fun a hF => ?_
  refine s_val hF (x_load rfl (m_load flat3 (m1.cell (j := 0) rfl))) (by decide) fun a hF => ?_
  refine s_end (hK4 _ _ ?_)
  refine wp_block ?_
  refine wp_seq_k fun K5 hK5 => ?_
  rcases (show k = 1 ∨ k = 2 ∨ k = 3 ∨ k = 4 ∨ (k ≠ 1 ∧ k ≠ 2 ∧ k ≠ 3 ∧ k ≠ 4) by omega) with hk1 | hk1 | hk1 | hk1 | hk1
  · have hcp : cpy (.mk k n ls) = .mk k n (ls.map cpy) := by simp [cpy, hk1, cpys_map]
    refine wp_rs fun K7 hK7 => ?_
    refine s_val hF (x_eql (b := true) (decide_eq_true (by omega)) rfl rfl) (by decide) fun a hF => ?_
    refine s_val hF (x_assign rfl) (by decide) fun a hF => ?_
    refine s_end (hK7 _ _ ?_)
    refine wp_if hF rfl ?_
    refine wp_skip (hK5 _ _ ?_)
    refine wp_if hF rfl ?_
    refine wp_region_lit ?_
    refine s_val hF (x_fa0 fa24_1 rfl) (by decide) fun a hF => ?_
    refine s_val hF (x_load rfl (m_load flat3 (m1.cell (j := 1) rfl))) (by decide) fun a hF => ?_
    refine s_val hF (x_fa0 fa24_1 rfl) (by decide) fun a hF => ?_
    refine s_put hF rfl rfl flat3 m3 (by first | (simp; done) | (simp [tc, lc]; done) | decide) rfl fun w12 m3 o13 => ?_
    have so13 := o13.size
    have hB := hB.trans (o13.below (by omega))
    have m1 := m1.only o13 (by omega)
    have m2 := m2.only o13 (by omega)
    refine s_end (hK3 _ _ ?_)
    refine wp_seq_k fun K8 hK8 => ?_
    refine wp_rs fun K9 hK9 => ?_
    refine s_val hF (x_fa0 fa24_2 rfl) (by decide) fun a hF => ?_
    refine s_val hF (x_load rfl (m_load flat22 (m1.cell (j := 2) rfl))) (by decide) fun a hF => ?_
    refine s_val hF (x_len Try.underlying22 rfl) (by decide) fun a hF => ?_
    refine s_val hF (x_move rfl) (by decide) fun a hF => ?_
    refine s_end (hK9 _ _ ?_)
    refine wp_block ?_
    refine wp_up xs.length (fun i a w => ∃ v' o' zs, w.ownsRow w0.heap.size 24 3 v' zs.length (zs.flatMap lc) ∧ (∀ j, v'.ownBlock = some j → j = o') ∧ v'.ownBlock ≠ some b3 ∧ v'.ownBlock ≠ some b2 ∧ (w0.heap.size ≤ o' ∧ o' < w.heap.size ∧ (o' = b3 ∨ b3 < o')) ∧ QL w (fun k => w0.heap.size ≤ k ∧ k ≠ b2 ∧ k ≠ b3 ∧ k ≠ o' ∧ k < w.heap.size) zs ((ls.map cpy).take i) ∧ Blk w b3 24 [.int .i64 k, .int .i64 n, v'] ∧ Blk w b2 24 [.int .i64 0, .int .i64 0, .slice none 0 0] ∧ Below w0.heap.size w0 w ∧ Fs 37 a [(24, .int .i64 (i : Int)), (23, .int .i64 (xs.length : Int)), (22, .slice av xs.length cv), (2, .pointer (some ⟨b2, 0, none⟩)), (3, .pointer (some ⟨b3, 0, none⟩))]) ⟨_, b3, [], World.ownsRow_nil _ _ _ _, (fun j h => by cases h), (fun h => by cases h), (fun h => by cases h), by have := m3.lt; omega, by rw [List.take_zero]; exact QL.nil, m3, m2, hB, hF.sub _ rfl⟩ ?_
    have hbb : w0.heap.size ≤ b2 ∧ b2 < b3 := ⟨by omega, by omega⟩
    repeat clear hF
    clear hB m2 m3
    rintro i a w hi ⟨vv, o2, zs, hO, hat, hne, hne2, hlo, hP, mg, m2, hB, hF⟩ K' hK'
    have sB := hB.size
    have hgl := mg.lt
    obtain ⟨top, htop⟩ : ∃ h, h = w.heap.size := ⟨_, rfl⟩
    rw [← htop] at hP
    have hPl := hP.1
    rw [List.length_take, List.length_map] at hPl
    have h1vv := (Rd.own hO).one
    refine wp_rs fun K10 hK10 => ?_
    refine s_val hF (x_lss rfl rfl rfl) (by decide) fun a hF => ?_
    refine s_end (hK10 _ _ ?_)
    refine wp_seq_k fun K11 hK11 => ?_
    refine wp_iff hF rfl (fun hc25 => ?_) (fun hc25 => ?_)
    · obtain ⟨b, off, c, y, hve, hy, hrow⟩ := rd_row3 hR (i := i) (by omega)
      cases hve
      obtain ⟨p, hp⟩ : ∃ p, ls[i]? = some p := ⟨_, List.getElem?_eq_getElem (by omega)⟩
      have hps := szs_take hp
      have hsl1 := szs_le ls (i + 1)
      have hty := hk i y p hy hp
      have h1y := hty.one1
      refine wp_skip (hK11 _ _ ?_)
      refine wp_seq_k fun K12 hK12 => ?_
      refine wp_block ?_
      refine wp_rs fun K13 hK13 => ?_
      refine s_val hF (x_ixa rfl rfl (m_ixsK i Try.underlying22 el22.size rfl (by omega))) (by decide) fun a hF => ?_
      refine s_val hF (x_ldA wide24 (hrow _ hB) rfl rfl) (by decide) fun a hF => ?_
      refine s_alloc hF (by decide) zero24 fun w14 b5 a eb5 m5 B15 zb5 hF => ?_
      have sB15 := B15.size
      have hB := hB.trans (B15.mono hB.size)
      have m2 := m2.old B15
      have mg := mg.old B15
      have hO := own_below hO B15
      have hP := hP.below B15
      refine s_putW hF rfl rfl (size_wide wide24) m5 rfl (one_lc h1y) fun w18 m5 o19 => ?_
      have so19 := o19.size
      have hB := hB.trans (o19.below (by omega))
      have m2 := m2.only o19 (by omega)
      have mg := mg.only o19 (by omega)
      have hO := own_only hO o19 (fun e => by have := hat _ e; omega)
      have hP := hP.only o19 (fun k (hk : w0.heap.size ≤ k ∧ k ≠ b2 ∧ k ≠ b3 ∧ k ≠ o2 ∧ k < top) => by omega)
      refine s_end (hK13 _ _ ?_)
      refine dk2_one (b3) (o2) (ops := regOps Try.f141 12) (N := 8) (by kernel_rfl) wide_orders (by kernel_rfl) fun w20 hw20 B21 hS K14 hK14 => ?_
      have zw20 : w20.heap.size = w18.heap.size := by rw [hw20]
      have sB21 := B21.size
      have hB := hB.trans (B21.mono hB.size)
      have m2 := m2.old B21
      have mg := mg.old B21
      have hO := own_below hO B21
      have hP := hP.below B21
      have m5 := m5.old B21
      have m2_d := m2
      have mg_d := mg
      have hO_d := hO
      have hP_d := hP
      have m5_d := m5
      have hB_d := hB
      refine d_val 0 28 (op := (Go.Op.fieldAddr 24 (Go.Operand.tmp 3) 2)) hF hS (by kernel_rfl) (fun W hW => x_fa0 fa24_2 rfl) (by kernel_rfl) (by decide) fun a hF => ?_
      refine d_val 2 30 (op := (Go.Op.load 24 (Go.Operand.tmp 5))) hF hS (by kernel_rfl) (fun W hW => x_ldW wide24 (m5_d.k2 hW (by omega)) rfl rfl) (by kernel_rfl) (by decide) fun a hF => ?_
      refine d_two 1 3 (by kernel_rfl) ?_ ?_
      · refine d_op 1 (some 29) (Go.Op.load 22 (Go.Operand.tmp 28)) (by kernel_rfl) fun ty pos af => ?_
        refine s_val hF (x_load rfl (m_load flat22 (mg.cell (j := 2) rfl))) (by decide) fun a hF => ?_
        refine s_end ⟨hS, ?_⟩
        refine d_one 3 (some 31) (Go.Op.call (Go.Call.mk (Go.Callee.value (Go.Operand.func 141)) #[(Go.Operand.tmp 30)] #[24])) (by kernel_rfl) (by kernel_rfl) fun ty pos af => ?_
        refine s_callR (R := fun u w' => ∃ z, u = lv z ∧ RLx w' (fun k => w20.heap.size ≤ k) z (cpy p)) [_] hF (enters_of Try.func141 (by kernel_rfl) rfl) rfl (by decide) (ih p y w20 (by omega) (by omega) (RL_b hB hty)) ?_
        rintro _ w22 a ⟨z, rfl, hz0⟩ B23 hF
        have sB23 := B23.size
        have hB := hB.trans (B23.mono hB.size)
        have m2 := m2.old B23
        have mg := mg.old B23
        have hO := own_below hO B23
        have hP := hP.below B23
        have m5 := m5.old B23
        have hS := hS.below B23
        have hz := hz0.valid
        clear hz0
        have h1z := hz.rl.one1
        refine s_end ⟨hS, ?_⟩
        refine d_one 4 (some 32) (Go.Op.buildSlice 22 1 #[(0, (Go.Operand.tmp 31))]) (by kernel_rfl) (by kernel_rfl) fun ty pos af => ?_
        refine s_litG [lv z] el22 hF (by decide) rfl (by simp [Value.cells, lc]) rfl (by decide) (by decide) fun w24 bl a ebl ml B25 zbl hF => ?_
        have sB25 := B25.size
        have hB := hB.trans (B25.mono hB.size)
        have m2 := m2.old B25
        have mg := mg.old B25
        have hO := own_below hO B25
        have hP := hP.below B25
        have m5 := m5.old B25
        have hz := hz.below B25
        have hS := hS.below B25
        have ml : Blk w24 bl 24 (lc z) := by simpa [Value.cells] using ml
        refine s_end ⟨hS, ?_⟩
        refine d_one 5 (some 33) (Go.Op.call (Go.Call.mk (Go.Callee.builtin Go.Builtin.append) #[(Go.Operand.tmp 29), (Go.Operand.tmp 32)] #[22, 22])) (by kernel_rfl) (by kernel_rfl) fun ty pos af => ?_
        refine s_appL (o := o2) el22 hF (by decide) rfl rfl hO ml rfl (one_lc h1z) hat (by omega) (by omega) (by decide) (by omega) fun v3 w26 a o3 hOn hOatn how hsrc k27 hkeep hF => ?_
        have sk27 := k27.size
        have hB := k27.under hB (by omega)
        have m2 : Blk w26 b2 _ _ := (hkeep _ m2.lt hne2).trans m2
        have mg : Blk w26 b3 _ _ := (hkeep _ mg.lt hne).trans mg
        have hP := hP.k2 k27 (fun k (hk : w0.heap.size ≤ k ∧ k ≠ b2 ∧ k ≠ b3 ∧ k ≠ o2 ∧ k < top) => by omega)
        have m5 := m5.k2 k27 (by omega)
        have hz := hz.k2 k27 (fun k (hk : w20.heap.size ≤ k ∧ k < w22.heap.size) => by omega)
        have ml := ml.k2 k27 (by omega)
        have hS := hS.trans k27 (by omega)
        have hO := hOn
        have hO_at := hOatn
        have hneg : v3.ownBlock ≠ some b3 := fun h => by rcases hsrc b3 h with h | h; exact hne h; omega
        have hneg2 : v3.ownBlock ≠ some b2 := fun h => by rcases hsrc b2 h with h | h; exact hne2 h; omega
        refine s_end ⟨hS, ?_⟩
        refine d_val 6 34 (op := (Go.Op.fieldAddr 24 (Go.Operand.tmp 3) 2)) hF hS (by kernel_rfl) (fun W hW => x_fa0 fa24_2 rfl) (by kernel_rfl) (by decide) fun a hF => ?_
        refine d_one 7 none (Go.Op.store 22 (Go.Operand.tmp 34) (Go.Operand.tmp 33)) (by kernel_rfl) (by kernel_rfl) fun ty pos af => ?_
        refine s_put hF rfl rfl flat22 mg (by first | (simp; done) | (simp [tc, lc]; done) | decide) (Rd.own hO).one fun w28 mg o29 => ?_
        have so29 := o29.size
        have hB := hB.trans (o29.below (by omega))
        have m2 := m2.only o29 (by omega)
        have hO := own_only hO o29 (hneg)
        have hP := hP.only o29 (fun k (hk : w0.heap.size ≤ k ∧ k ≠ b2 ∧ k ≠ b3 ∧ k ≠ o2 ∧ k < top) => by omega)
        have m5 := m5.only o29 (by omega)
        have hz := hz.only o29 (fun k (hk : w20.heap.size ≤ k ∧ k < w22.heap.size) => by omega)
        have ml := ml.only o29 (by omega)
        have hS := hS.only o29 (by omega)
        refine s_end ⟨hS, ?_⟩
        refine d_end (by kernel_rfl) (hK14 _ _ ?_)
        refine hK12 _ _ ?_
        refine wp_region_lit ?_
        refine s_val hF (x_addn (i + 1) (by omega) (by omega) rfl rfl) (by decide) fun a hF => ?_
        refine s_val hF (x_move rfl) (by decide) fun a hF => ?_
        have hL2 : (ls.map cpy).take (i + 1) = (ls.map cpy).take i ++ [cpy p] := take_snoc (by rw [List.getElem?_map, hp]; rfl)
        refine s_end (hK' _ _ (by omega) ⟨v3, o3, zs ++ [z], by rw [fm3_app]; simpa using hO, hO_at, hneg, hneg2, by omega, by rw [hL2]; exact (hP.mono (fun k (hk : w0.heap.size ≤ k ∧ k ≠ b2 ∧ k ≠ b3 ∧ k ≠ o2 ∧ k < top) => (by omega : _ ∧ _ ∧ _ ∧ _ ∧ _))).snoc (hz.mono (fun k (hk : w20.heap.size ≤ k ∧ k < w22.heap.size) => (by omega : _ ∧ _ ∧ _ ∧ _ ∧ _))), mg, m2, hB, hF.sub _ rfl⟩)
      · refine d_op 3 (some 31) (Go.Op.call (Go.Call.mk (Go.Callee.value (Go.Operand.func 141)) #[(Go.Operand.tmp 30)] #[24])) (by kernel_rfl) fun ty pos af => ?_
        refine s_callR (R := fun u w' => ∃ z, u = lv z ∧ RLx w' (fun k => w20.heap.size ≤ k) z (cpy p)) [_] hF (enters_of Try.func141 (by kernel_rfl) rfl) rfl (by decide) (ih p y w20 (by omega) (by omega) (RL_b hB hty)) ?_
        rintro _ w30 a ⟨z, rfl, hz0⟩ B31 hF
        have sB31 := B31.size
        have hB := hB.trans (B31.mono hB.size)
        have m2 := m2.old B31
        have mg := mg.old B31
        have hO := own_below hO B31
        have hP := hP.below B31
        have m5 := m5.old B31
        have hS := hS.below B31
        have hz := hz0.valid
        clear hz0
        have h1z := hz.rl.one1
        refine s_end ⟨hS, ?_⟩
        refine d_two 1 4 (by kernel_rfl) ?_ ?_
        · refine d_op 1 (some 29) (Go.Op.load 22 (Go.Operand.tmp 28)) (by kernel_rfl) fun ty pos af => ?_
          refine s_val hF (x_load rfl (m_load flat22 (mg.cell (j := 2) rfl))) (by decide) fun a hF => ?_
          refine s_end ⟨hS, ?_⟩
          refine d_one 4 (some 32) (Go.Op.buildSlice 22 1 #[(0, (Go.Operand.tmp 31))]) (by kernel_rfl) (by kernel_rfl) fun ty pos af => ?_
          refine s_litG [lv z] el22 hF (by decide) rfl (by simp [Value.cells, lc]) rfl (by decide) (by decide) fun w32 bl a ebl ml B33 zbl hF => ?_
          have sB33 := B33.size
          have hB := hB.trans (B33.mono hB.size)
          have m2 := m2.old B33
          have mg := mg.old B33
          have hO := own_below hO B33
          have hP := hP.below B33
          have m5 := m5.old B33
          have hz := hz.below B33
          have hS := hS.below B33
          have ml : Blk w32 bl 24 (lc z) := by simpa [Value.cells] using ml
          refine s_end ⟨hS, ?_⟩
          refine d_one 5 (some 33) (Go.Op.call (Go.Call.mk (Go.Callee.builtin Go.Builtin.append) #[(Go.Operand.tmp 29), (Go.Operand.tmp 32)] #[22, 22])) (by kernel_rfl) (by kernel_rfl) fun ty pos af => ?_
          refine s_appL (o := o2) el22 hF (by decide) rfl rfl hO ml rfl (one_lc h1z) hat (by omega) (by omega) (by decide) (by omega) fun v3 w34 a o3 hOn hOatn how hsrc k35 hkeep hF => ?_
          have sk35 := k35.size
          have hB := k35.under hB (by omega)
          have m2 : Blk w34 b2 _ _ := (hkeep _ m2.lt hne2).trans m2
          have mg : Blk w34 b3 _ _ := (hkeep _ mg.lt hne).trans mg
          have hP := hP.k2 k35 (fun k (hk : w0.heap.size ≤ k ∧ k ≠ b2 ∧ k ≠ b3 ∧ k ≠ o2 ∧ k < top) => by omega)
          have m5 := m5.k2 k35 (by omega)
          have hz := hz.k2 k35 (fun k (hk : w20.heap.size ≤ k ∧ k < w30.heap.size) => by omega)
          have ml := ml.k2 k35 (by omega)
          have hS := hS.trans k35 (by omega)
          have hO := hOn
          have hO_at := hOatn
          have hneg : v3.ownBlock ≠ some b3 := fun h => by rcases hsrc b3 h with h | h; exact hne h; omega
          have hneg2 : v3.ownBlock ≠ some b2 := fun h => by rcases hsrc b2 h with h | h; exact hne2 h; omega
          refine s_end ⟨hS, ?_⟩
          refine d_val 6 34 (op := (Go.Op.fieldAddr 24 (Go.Operand.tmp 3) 2)) hF hS (by kernel_rfl) (fun W hW => x_fa0 fa24_2 rfl) (by kernel_rfl) (by decide) fun a hF => ?_
          refine d_one 7 none (Go.Op.store 22 (Go.Operand.tmp 34) (Go.Operand.tmp 33)) (by kernel_rfl) (by kernel_rfl) fun ty pos af => ?_
          refine s_put hF rfl rfl flat22 mg (by first | (simp; done) | (simp [tc, lc]; done) | decide) (Rd.own hO).one fun w36 mg o37 => ?_
          have so37 := o37.size
          have hB := hB.trans (o37.below (by omega))
          have m2 := m2.only o37 (by omega)
          have hO := own_only hO o37 (hneg)
          have hP := hP.only o37 (fun k (hk : w0.heap.size ≤ k ∧ k ≠ b2 ∧ k ≠ b3 ∧ k ≠ o2 ∧ k < top) => by omega)
          have m5 := m5.only o37 (by omega)
          have hz := hz.only o37 (fun k (hk : w20.heap.size ≤ k ∧ k < w30.heap.size) => by omega)
          have ml := ml.only o37 (by omega)
          have hS := hS.only o37 (by omega)
          refine s_end ⟨hS, ?_⟩
          refine d_end (by kernel_rfl) (hK14 _ _ ?_)
          refine hK12 _ _ ?_
          refine wp_region_lit ?_
          refine s_val hF (x_addn (i + 1) (by omega) (by omega) rfl rfl) (by decide) fun a hF => ?_
          refine s_val hF (x_move rfl) (by decide) fun a hF => ?_
          have hL2 : (ls.map cpy).take (i + 1) = (ls.map cpy).take i ++ [cpy p] := take_snoc (by rw [List.getElem?_map, hp]; rfl)
          refine s_end (hK' _ _ (by omega) ⟨v3, o3, zs ++ [z], by rw [fm3_app]; simpa using hO, hO_at, hneg, hneg2, by omega, by rw [hL2]; exact (hP.mono (fun k (hk : w0.heap.size ≤ k ∧ k ≠ b2 ∧ k ≠ b3 ∧ k ≠ o2 ∧ k < top) => (by omega : _ ∧ _ ∧ _ ∧ _ ∧ _))).snoc (hz.mono (fun k (hk : w20.heap.size ≤ k ∧ k < w30.heap.size) => (by omega : _ ∧ _ ∧ _ ∧ _ ∧ _))), mg, m2, hB, hF.sub _ rfl⟩)
        · refine d_op 4 (some 32) (Go.Op.buildSlice 22 1 #[(0, (Go.Operand.tmp 31))]) (by kernel_rfl) fun ty pos af => ?_
          refine s_litG [lv z] el22 hF (by decide) rfl (by simp [Value.cells, lc]) rfl (by decide) (by decide) fun w38 bl a ebl ml B39 zbl hF => ?_
          have sB39 := B39.size
          have hB := hB.trans (B39.mono hB.size)
          have m2 := m2.old B39
          have mg := mg.old B39
          have hO := own_below hO B39
          have hP := hP.below B39
          have m5 := m5.old B39
          have hz := hz.below B39
          have hS := hS.below B39
          have ml : Blk w38 bl 24 (lc z) := by simpa [Value.cells] using ml
          refine s_end ⟨hS, ?_⟩
          refine d_one 1 (some 29) (Go.Op.load 22 (Go.Operand.tmp 28)) (by kernel_rfl) (by kernel_rfl) fun ty pos af => ?_
          refine s_val hF (x_load rfl (m_load flat22 (mg.cell (j := 2) rfl))) (by decide) fun a hF => ?_
          refine s_end ⟨hS, ?_⟩
          refine d_one 5 (some 33) (Go.Op.call (Go.Call.mk (Go.Callee.builtin Go.Builtin.append) #[(Go.Operand.tmp 29), (Go.Operand.tmp 32)] #[22, 22])) (by kernel_rfl) (by kernel_rfl) fun ty pos af => ?_
          refine s_appL (o := o2) el22 hF (by decide) rfl rfl hO ml rfl (one_lc h1z) hat (by omega) (by omega) (by decide) (by omega) fun v3 w40 a o3 hOn hOatn how hsrc k41 hkeep hF => ?_
          have sk41 := k41.size
          have hB := k41.under hB (by omega)
          have m2 : Blk w40 b2 _ _ := (hkeep _ m2.lt hne2).trans m2
          have mg : Blk w40 b3 _ _ := (hkeep _ mg.lt hne).trans mg
          have hP := hP.k2 k41 (fun k (hk : w0.heap.size ≤ k ∧ k ≠ b2 ∧ k ≠ b3 ∧ k ≠ o2 ∧ k < top) => by omega)
          have m5 := m5.k2 k41 (by omega)
          have hz := hz.k2 k41 (fun k (hk : w20.heap.size ≤ k ∧ k < w30.heap.size) => by omega)
          have ml := ml.k2 k41 (by omega)
          have hS := hS.trans k41 (by omega)
          have hO := hOn
          have hO_at := hOatn
          have hneg : v3.ownBlock ≠ some b3 := fun h => by rcases hsrc b3 h with h | h; exact hne h; omega
          have hneg2 : v3.ownBlock ≠ some b2 := fun h => by rcases hsrc b2 h with h | h; exact hne2 h; omega
          refine s_end ⟨hS, ?_⟩
          refine d_val 6 34 (op := (Go.Op.fieldAddr 24 (Go.Operand.tmp 3) 2)) hF hS (by kernel_rfl) (fun W hW => x_fa0 fa24_2 rfl) (by kernel_rfl) (by decide) fun a hF => ?_
          refine d_one 7 none (Go.Op.store 22 (Go.Operand.tmp 34) (Go.Operand.tmp 33)) (by kernel_rfl) (by kernel_rfl) fun ty pos af => ?_
          refine s_put hF rfl rfl flat22 mg (by first | (simp; done) | (simp [tc, lc]; done) | decide) (Rd.own hO).one fun w42 mg o43 => ?_
          have so43 := o43.size
          have hB := hB.trans (o43.below (by omega))
          have m2 := m2.only o43 (by omega)
          have hO := own_only hO o43 (hneg)
          have hP := hP.only o43 (fun k (hk : w0.heap.size ≤ k ∧ k ≠ b2 ∧ k ≠ b3 ∧ k ≠ o2 ∧ k < top) => by omega)
          have m5 := m5.only o43 (by omega)
          have hz := hz.only o43 (fun k (hk : w20.heap.size ≤ k ∧ k < w30.heap.size) => by omega)
          have ml := ml.only o43 (by omega)
          have hS := hS.only o43 (by omega)
          refine s_end ⟨hS, ?_⟩
          refine d_end (by kernel_rfl) (hK14 _ _ ?_)
          refine hK12 _ _ ?_
          refine wp_region_lit ?_
          refine s_val hF (x_addn (i + 1) (by omega) (by omega) rfl rfl) (by decide) fun a hF => ?_
          refine s_val hF (x_move rfl) (by decide) fun a hF => ?_
          have hL2 : (ls.map cpy).take (i + 1) = (ls.map cpy).take i ++ [cpy p] := take_snoc (by rw [List.getElem?_map, hp]; rfl)
          refine s_end (hK' _ _ (by omega) ⟨v3, o3, zs ++ [z], by rw [fm3_app]; simpa using hO, hO_at, hneg, hneg2, by omega, by rw [hL2]; exact (hP.mono (fun k (hk : w0.heap.size ≤ k ∧ k ≠ b2 ∧ k ≠ b3 ∧ k ≠ o2 ∧ k < top) => (by omega : _ ∧ _ ∧ _ ∧ _ ∧ _))).snoc (hz.mono (fun k (hk : w20.heap.size ≤ k ∧ k < w30.heap.size) => (by omega : _ ∧ _ ∧ _ ∧ _ ∧ _))), mg, m2, hB, hF.sub _ rfl⟩)
    · refine wp_exit (hK8 _ _ ?_)
      refine wp_rs fun K15 hK15 => ?_
      refine s_val hF (x_ldW wide24 mg rfl rfl) (by decide) fun a hF => ?_
      refine s_putW hF rfl rfl (size_wide wide24) m2 rfl (one3 h1vv) fun w46 m2 o47 => ?_
      have so47 := o47.size
      have hB := hB.trans (o47.below (by omega))
      have mg := mg.only o47 (by omega)
      have hO := own_only hO o47 (hne2)
      have hP := hP.only o47 (fun k (hk : w0.heap.size ≤ k ∧ k ≠ b2 ∧ k ≠ b3 ∧ k ≠ o2 ∧ k < top) => by omega)
      refine s_end (hK15 _ _ ?_)
      have hall : (ls.map cpy).take i = ls.map cpy := List.take_of_length_le (by rw [List.length_map]; omega)
      rw [hall] at hP
      refine wp_ret (res_cell hF rfl rfl m2 wide24 ⟨_, rfl, ⟨(k, n, vv), rfl, by rw [hcp]; exact .mk ⟨Rd.own hO, fun _ j h => (hO.lt j h).1⟩ hP.1 ((hP.mono (B := fun k => w0.heap.size ≤ k) (fun k (hk : w0.heap.size ≤ k ∧ k ≠ b2 ∧ k ≠ b3 ∧ k ≠ o2 ∧ k < top) => (by omega : _ ≤ _))).2)⟩, hB⟩)
  · have hcp : cpy (.mk k n ls) = .mk k n (ls.map cpy) := by simp [cpy, hk1, cpys_map]
    refine wp_rs fun K16 hK16 => ?_
    refine s_val hF (x_eql (b := false) (decide_eq_false (by omega)) rfl rfl) (by decide) fun a hF => ?_
    refine s_val hF (x_assign rfl) (by decide) fun a hF => ?_
    refine s_end (hK16 _ _ ?_)
    refine wp_if hF rfl ?_
    refine wp_rs fun K17 hK17 => ?_
    refine s_val hF (x_eql (b := true) (decide_eq_true (by omega)) rfl rfl) (by decide) fun a hF => ?_
    refine s_val hF (x_assign rfl) (by decide) fun a hF => ?_
    refine s_end (hK17 _ _ ?_)
    refine wp_if hF rfl ?_
    refine wp_skip (hK5 _ _ ?_)
    refine wp_if hF rfl ?_
    refine wp_region_lit ?_
    refine s_val hF (x_fa0 fa24_1 rfl) (by decide) fun a hF => ?_
    refine s_val hF (x_load rfl (m_load flat3 (m1.cell (j := 1) rfl))) (by decide) fun a hF => ?_
    refine s_val hF (x_fa0 fa24_1 rfl) (by decide) fun a hF => ?_
    refine s_put hF rfl rfl flat3 m3 (by first | (simp; done) | (simp [tc, lc]; done) | decide) rfl fun w48 m3 o49 => ?_
    have so49 := o49.size
    have hB := hB.trans (o49.below (by omega))
    have m1 := m1.only o49 (by omega)
    have m2 := m2.only o49 (by omega)
    refine s_end (hK3 _ _ ?_)
    refine wp_seq_k fun K18 hK18 => ?_
    refine wp_rs fun K19 hK19 => ?_
    refine s_val hF (x_fa0 fa24_2 rfl) (by decide) fun a hF => ?_
    refine s_val hF (x_load rfl (m_load flat22 (m1.cell (j := 2) rfl))) (by decide) fun a hF => ?_
    refine s_val hF (x_len Try.underlying22 rfl) (by decide) fun a hF => ?_
    refine s_val hF (x_move rfl) (by decide) fun a hF => ?_
    refine s_end (hK19 _ _ ?_)
    refine wp_block ?_
    refine wp_up xs.length (fun i a w => ∃ v' o' zs, w.ownsRow w0.heap.size 24 3 v' zs.length (zs.flatMap lc) ∧ (∀ j, v'.ownBlock = some j → j = o') ∧ v'.ownBlock ≠ some b3 ∧ v'.ownBlock ≠ some b2 ∧ (w0.heap.size ≤ o' ∧ o' < w.heap.size ∧ (o' = b3 ∨ b3 < o')) ∧ QL w (fun k => w0.heap.size ≤ k ∧ k ≠ b2 ∧ k ≠ b3 ∧ k ≠ o' ∧ k < w.heap.size) zs ((ls.map cpy).take i) ∧ Blk w b3 24 [.int .i64 k, .int .i64 n, v'] ∧ Blk w b2 24 [.int .i64 0, .int .i64 0, .slice none 0 0] ∧ Below w0.heap.size w0 w ∧ Fs 37 a [(24, .int .i64 (i : Int)), (23, .int .i64 (xs.length : Int)), (22, .slice av xs.length cv), (2, .pointer (some ⟨b2, 0, none⟩)), (3, .pointer (some ⟨b3, 0, none⟩))]) ⟨_, b3, [], World.ownsRow_nil _ _ _ _, (fun j h => by cases h), (fun h => by cases h), (fun h => by cases h), by have := m3.lt; omega, by rw [List.take_zero]; exact QL.nil, m3, m2, hB, hF.sub _ rfl⟩ ?_
    have hbb : w0.heap.size ≤ b2 ∧ b2 < b3 := ⟨by omega, by omega⟩
    repeat clear hF
    clear hB m2 m3
    rintro i a w hi ⟨vv, o2, zs, hO, hat, hne, hne2, hlo, hP, mg, m2, hB, hF⟩ K' hK'
    have sB := hB.size
    have hgl := mg.lt
    obtain ⟨top, htop⟩ : ∃ h, h = w.heap.size := ⟨_, rfl⟩
    rw [← htop] at hP
    have hPl := hP.1
    rw [List.length_take, List.length_map] at hPl
    have h1vv := (Rd.own hO).one
    refine wp_rs fun K20 hK20 => ?_
    refine s_val hF (x_lss rfl rfl rfl) (by decide) fun a hF => ?_
    refine s_end (hK20 _ _ ?_)
    refine wp_seq_k fun K21 hK21 => ?_
    refine wp_iff hF rfl (fun hc25 => ?_) (fun hc25 => ?_)
    · obtain ⟨b, off, c, y, hve, hy, hrow⟩ := rd_row3 hR (i := i) (by omega)
      cases hve
      obtain ⟨p, hp⟩ : ∃ p, ls[i]? = some p := ⟨_, List.getElem?_eq_getElem (by omega)⟩
      have hps := szs_take hp
      have hsl1 := szs_le ls (i + 1)
      have hty := hk i y p hy hp
      have h1y := hty.one1
      refine wp_skip (hK21 _ _ ?_)
      refine wp_seq_k fun K22 hK22 => ?_
      refine wp_block ?_
      refine wp_rs fun K23 hK23 => ?_
      refine s_val hF (x_ixa rfl rfl (m_ixsK i Try.underlying22 el22.size rfl (by omega))) (by decide) fun a hF => ?_
      refine s_val hF (x_ldA wide24 (hrow _ hB) rfl rfl) (by decide) fun a hF => ?_
      refine s_alloc hF (by decide) zero24 fun w50 b5 a eb5 m5 B51 zb5 hF => ?_
      have sB51 := B51.size
      have hB := hB.trans (B51.mono hB.size)
      have m2 := m2.old B51
      have mg := mg.old B51
      have hO := own_below hO B51
      have hP := hP.below B51
      refine s_putW hF rfl rfl (size_wide wide24) m5 rfl (one_lc h1y) fun w54 m5 o55 => ?_
      have so55 := o55.size
      have hB := hB.trans (o55.below (by omega))
      have m2 := m2.only o55 (by omega)
      have mg := mg.only o55 (by omega)
      have hO := own_only hO o55 (fun e => by have := hat _ e; omega)
      have hP := hP.only o55 (fun k (hk : w0.heap.size ≤ k ∧ k ≠ b2 ∧ k ≠ b3 ∧ k ≠ o2 ∧ k < top) => by omega)
      refine s_end (hK23 _ _ ?_)
      refine dk2_one (b3) (o2) (ops := regOps Try.f141 12) (N := 8) (by kernel_rfl) wide_orders (by kernel_rfl) fun w56 hw56 B57 hS K24 hK24 => ?_
      have zw56 : w56.heap.size = w54.heap.size := by rw [hw56]
      have sB57 := B57.size
      have hB := hB.trans (B57.mono hB.size)
      have m2 := m2.old B57
      have mg := mg.old B57
      have hO := own_below hO B57
      have hP := hP.below B57
      have m5 := m5.old B57
      have m2_d := m2
      have mg_d := mg
      have hO_d := hO
      have hP_d := hP
      have m5_d := m5
      have hB_d := hB
      refine d_val 0 28 (op := (Go.Op.fieldAddr 24 (Go.Operand.tmp 3) 2)) hF hS (by kernel_rfl) (fun W hW => x_fa0 fa24_2 rfl) (by kernel_rfl) (by decide) fun a hF => ?_
      refine d_val 2 30 (op := (Go.Op.load 24 (Go.Operand.tmp 5))) hF hS (by kernel_rfl) (fun W hW => x_ldW wide24 (m5_d.k2 hW (by omega)) rfl rfl) (by kernel_rfl) (by decide) fun a hF => ?_
      refine d_two 1 3 (by kernel_rfl) ?_ ?_
      · refine d_op 1 (some 29) (Go.Op.load 22 (Go.Operand.tmp 28)) (by kernel_rfl) fun ty pos af => ?_
        refine s_val hF (x_load rfl (m_load flat22 (mg.cell (j := 2) rfl))) (by decide) fun a hF => ?_
        refine s_end ⟨hS, ?_⟩
        refine d_one 3 (some 31) (Go.Op.call (Go.Call.mk (Go.Callee.value (Go.Operand.func 141)) #[(Go.Operand.tmp 30)] #[24])) (by kernel_rfl) (by kernel_rfl) fun ty pos af => ?_
        refine s_callR (R := fun u w' => ∃ z, u = lv z ∧ RLx w' (fun k => w56.heap.size ≤ k) z (cpy p)) [_] hF (enters_of Try.func141 (by kernel_rfl) rfl) rfl (by decide) (ih p y w56 (by omega) (by omega) (RL_b hB hty)) ?_
        rintro _ w58 a ⟨z, rfl, hz0⟩ B59 hF
        have sB59 := B59.size
        have hB := hB.trans (B59.mono hB.size)
        have m2 := m2.old B59
        have mg := mg.old B59
        have hO := own_below hO B59
        have hP := hP.below B59
        have m5 := m5.old B59
        have hS := hS.below B59
        have hz := hz0.valid
        clear hz0
        have h1z := hz.rl.one1
        refine s_end ⟨hS, ?_⟩
        refine d_one 4 (some 32) (Go.Op.buildSlice 22 1 #[(0, (Go.Operand.tmp 31))]) (by kernel_rfl) (by kernel_rfl) fun ty pos af => ?_
        refine s_litG [lv z] el22 hF (by decide) rfl (by simp [Value.cells, lc]) rfl (by decide) (by decide) fun w60 bl a ebl ml B61 zbl hF => ?_
        have sB61 := B61.size
        have hB := hB.trans (B61.mono hB.size)
        have m2 := m2.old B61
        have mg := mg.old B61
        have hO := own_below hO B61
        have hP := hP.below B61
        have m5 := m5.old B61
        have hz := hz.below B61
        have hS := hS.below B61
        have ml : Blk w60 bl 24 (lc z) := by simpa [Value.cells] using ml
        refine s_end ⟨hS, ?_⟩
        refine d_one 5 (some 33) (Go.Op.call (Go.Call.mk (Go.Callee.builtin Go.Builtin.append) #[(Go.Operand.tmp 29), (Go.Operand.tmp 32)] #[22, 22])) (by kernel_rfl) (by kernel_rfl) fun ty pos af => ?_
        refine s_appL (o := o2) el22 hF (by decide) rfl rfl hO ml rfl (one_lc h1z) hat (by omega) (by omega) (by decide) (by omega) fun v3 w62 a o3 hOn hOatn how hsrc k63 hkeep hF => ?_
        have sk63 := k63.size
        have hB := k63.under hB (by omega)
        have m2 : Blk w62 b2 _ _ := (hkeep _ m2.lt hne2).trans m2
        have mg : Blk w62 b3 _ _ := (hkeep _ mg.lt hne).trans mg
        have hP := hP.k2 k63 (fun k (hk : w0.heap.size ≤ k ∧ k ≠ b2 ∧ k ≠ b3 ∧ k ≠ o2 ∧ k < top) => by omega)
        have m5 := m5.k2 k63 (by omega)
        have hz := hz.k2 k63 (fun k (hk : w56.heap.size ≤ k ∧ k < w58.heap.size) => by omega)
        have ml := ml.k2 k63 (by omega)
        have hS := hS.trans k63 (by omega)
        have hO := hOn
        have hO_at := hOatn
        have hneg : v3.ownBlock ≠ some b3 := fun h => by rcases hsrc b3 h with h | h; exact hne h; omega
        have hneg2 : v3.ownBlock ≠ some b2 := fun h => by rcases hsrc b2 h with h | h; exact hne2 h; omega
        refine s_end ⟨hS, ?_⟩
        refine d_val 6 34 (op := (Go.Op.fieldAddr 24 (Go.Operand.tmp 3) 2)) hF hS (by kernel_rfl) (fun W hW => x_fa0 fa24_2 rfl) (by kernel_rfl) (by decide) fun a hF => ?_
        refine d_one 7 none (Go.Op.store 22 (Go.Operand.tmp 34) (Go.Operand.tmp 33)) (by kernel_rfl) (by kernel_rfl) fun ty pos af => ?_
        refine s_put hF rfl rfl flat22 mg (by first | (simp; done) | (simp [tc, lc]; done) | decide) (Rd.own hO).one fun w64 mg o65 => ?_
        have so65 := o65.size
        have hB := hB.trans (o65.below (by omega))
        have m2 := m2.only o65 (by omega)
        have hO := own_only hO o65 (hneg)
        have hP := hP.only o65 (fun k (hk : w0.heap.size ≤ k ∧ k ≠ b2 ∧ k ≠ b3 ∧ k ≠ o2 ∧ k < top) => by omega)
        have m5 := m5.only o65 (by omega)
        have hz := hz.only o65 (fun k (hk : w56.heap.size ≤ k ∧ k < w58.heap.size) => by omega)
        have ml := ml.only o65 (by omega)
        have hS := hS.only o65 (by omega)
        refine s_end ⟨hS, ?_⟩
        refine d_end (by kernel_rfl) (hK24 _ _ ?_)
        refine hK22 _ _ ?_
        refine wp_region_lit ?_
        refine s_val hF (x_addn (i + 1) (by omega) (by omega) rfl rfl) (by decide) fun a hF => ?_
        refine s_val hF (x_move rfl) (by decide) fun a hF => ?_
        have hL2 : (ls.map cpy).take (i + 1) = (ls.map cpy).take i ++ [cpy p] := take_snoc (by rw [List.getElem?_map, hp]; rfl)
        refine s_end (hK' _ _ (by omega) ⟨v3, o3, zs ++ [z], by rw [fm3_app]; simpa using hO, hO_at, hneg, hneg2, by omega, by rw [hL2]; exact (hP.mono (fun k (hk : w0.heap.size ≤ k ∧ k ≠ b2 ∧ k ≠ b3 ∧ k ≠ o2 ∧ k < top) => (by omega : _ ∧ _ ∧ _ ∧ _ ∧ _))).snoc (hz.mono (fun k (hk : w56.heap.size ≤ k ∧ k < w58.heap.size) => (by omega : _ ∧ _ ∧ _ ∧ _ ∧ _))), mg, m2, hB, hF.sub _ rfl⟩)
      · refine d_op 3 (some 31) (Go.Op.call (Go.Call.mk (Go.Callee.value (Go.Operand.func 141)) #[(Go.Operand.tmp 30)] #[24])) (by kernel_rfl) fun ty pos af => ?_
        refine s_callR (R := fun u w' => ∃ z, u = lv z ∧ RLx w' (fun k => w56.heap.size ≤ k) z (cpy p)) [_] hF (enters_of Try.func141 (by kernel_rfl) rfl) rfl (by decide) (ih p y w56 (by omega) (by omega) (RL_b hB hty)) ?_
        rintro _ w66 a ⟨z, rfl, hz0⟩ B67 hF
        have sB67 := B67.size
        have hB := hB.trans (B67.mono hB.size)
        have m2 := m2.old B67
        have mg := mg.old B67
        have hO := own_below hO B67
        have hP := hP.below B67
        have m5 := m5.old B67
        have hS := hS.below B67
        have hz := hz0.valid
        clear hz0
        have h1z := hz.rl.one1
        refine s_end ⟨hS, ?_⟩
        refine d_two 1 4 (by kernel_rfl) ?_ ?_
        · refine d_op 1 (some 29) (Go.Op.load 22 (Go.Operand.tmp 28)) (by kernel_rfl) fun ty pos af => ?_
          refine s_val hF (x_load rfl (m_load flat22 (mg.cell (j := 2) rfl))) (by decide) fun a hF => ?_
          refine s_end ⟨hS, ?_⟩
          refine d_one 4 (some 32) (Go.Op.buildSlice 22 1 #[(0, (Go.Operand.tmp 31))]) (by kernel_rfl) (by kernel_rfl) fun ty pos af => ?_
          refine s_litG [lv z] el22 hF (by decide) rfl (by simp [Value.cells, lc]) rfl (by decide) (by decide) fun w68 bl a ebl ml B69 zbl hF => ?_
          have sB69 := B69.size
          have hB := hB.trans (B69.mono hB.size)
          have m2 := m2.old B69
          have mg := mg.old B69
          have hO := own_below hO B69
          have hP := hP.below B69
          have m5 := m5.old B69
          have hz := hz.below B69
          have hS := hS.below B69
          have ml : Blk w68 bl 24 (lc z) := by simpa [Value.cells] using ml
          refine s_end ⟨hS, ?_⟩
          refine d_one 5 (some 33) (Go.Op.call (Go.Call.mk (Go.Callee.builtin Go.Builtin.append) #[(Go.Operand.tmp 29), (Go.Operand.tmp 32)] #[22, 22])) (by kernel_rfl) (by kernel_rfl) fun ty pos af => ?_
          refine s_appL (o := o2) el22 hF (by decide) rfl rfl hO ml rfl (one_lc h1z) hat (by omega) (by omega) (by decide) (by omega) fun v3 w70 a o3 hOn hOatn how hsrc k71 hkeep hF => ?_
          have sk71 := k71.size
          have hB := k71.under hB (by omega)
          have m2 : Blk w70 b2 _ _ := (hkeep _ m2.lt hne2).trans m2
          have mg : Blk w70 b3 _ _ := (hkeep _ mg.lt hne).trans mg
          have hP := hP.k2 k71 (fun k (hk : w0.heap.size ≤ k ∧ k ≠ b2 ∧ k ≠ b3 ∧ k ≠ o2 ∧ k < top) => by omega)
          have m5 := m5.k2 k71 (by omega)
          have hz := hz.k2 k71 (fun k (hk : w56.heap.size ≤ k ∧ k < w66.heap.size) => by omega)
          have ml := ml.k2 k71 (by omega)
          have hS := hS.trans k71 (by omega)
          have hO := hOn
          have hO_at := hOatn
          have hneg : v3.ownBlock ≠ some b3 := fun h => by rcases hsrc b3 h with h | h; exact hne h; omega
          have hneg2 : v3.ownBlock ≠ some b2 := fun h => by rcases hsrc b2 h with h | h; exact hne2 h; omega
          refine s_end ⟨hS, ?_⟩
          refine d_val 6 34 (op := (Go.Op.fieldAddr 24 (Go.Operand.tmp 3) 2)) hF hS (by kernel_rfl) (fun W hW => x_fa0 fa24_2 rfl) (by kernel_rfl) (by decide) fun a hF => ?_
          refine d_one 7 none (Go.Op.store 22 (Go.Operand.tmp 34) (Go.Operand.tmp 33)) (by kernel_rfl) (by kernel_rfl) fun ty pos af => ?_
          refine s_put hF rfl rfl flat22 mg (by first | (simp; done) | (simp [tc, lc]; done) | decide) (Rd.own hO).one fun w72 mg o73 => ?_
          have so73 := o73.size
          have hB := hB.trans (o73.below (by omega))
          have m2 := m2.only o73 (by omega)
          have hO := own_only hO o73 (hneg)
          have hP := hP.only o73 (fun k (hk : w0.heap.size ≤ k ∧ k ≠ b2 ∧ k ≠ b3 ∧ k ≠ o2 ∧ k < top) => by omega)
          have m5 := m5.only o73 (by omega)
          have hz := hz.only o73 (fun k (hk : w56.heap.size ≤ k ∧ k < w66.heap.size) => by omega)
          have ml := ml.only o73 (by omega)
          have hS := hS.only o73 (by omega)
          refine s_end ⟨hS, ?_⟩
          refine d_end (by kernel_rfl) (hK24 _ _ ?_)
          refine hK22 _ _ ?_
          refine wp_region_lit ?_
          refine s_val hF (x_addn (i + 1) (by omega) (by omega) rfl rfl) (by decide) fun a hF => ?_
          refine s_val hF (x_move rfl) (by decide) fun a hF => ?_
          have hL2 : (ls.map cpy).take (i + 1) = (ls.map cpy).take i ++ [cpy p] := take_snoc (by rw [List.getElem?_map, hp]; rfl)
          refine s_end (hK' _ _ (by omega) ⟨v3, o3, zs ++ [z], by rw [fm3_app]; simpa using hO, hO_at, hneg, hneg2, by omega, by rw [hL2]; exact (hP.mono (fun k (hk : w0.heap.size ≤ k ∧ k ≠ b2 ∧ k ≠ b3 ∧ k ≠ o2 ∧ k < top) => (by omega : _ ∧ _ ∧ _ ∧ _ ∧ _))).snoc (hz.mono (fun k (hk : w56.heap.size ≤ k ∧ k < w66.heap.size) => (by omega : _ ∧ _ ∧ _ ∧ _ ∧ _))), mg, m2, hB, hF.sub _ rfl⟩)
        · refine d_op 4 (some 32) (Go.Op.buildSlice 22 1 #[(0, (Go.Operand.tmp 31))]) (by kernel_rfl) fun ty pos af => ?_
          refine s_litG [lv z] el22 hF (by decide) rfl (by simp [Value.cells, lc]) rfl (by decide) (by decide) fun w74 bl a ebl ml B75 zbl hF => ?_
          have sB75 := B75.size
          have hB := hB.trans (B75.mono hB.size)
          have m2 := m2.old B75
          have mg := mg.old B75
          have hO := own_below hO B75
          have hP := hP.below B75
          have m5 := m5.old B75
          have hz := hz.below B75
          have hS := hS.below B75
          have ml : Blk w74 bl 24 (lc z) := by simpa [Value.cells] using ml
          refine s_end ⟨hS, ?_⟩
          refine d_one 1 (some 29) (Go.Op.load 22 (Go.Operand.tmp 28)) (by kernel_rfl) (by kernel_rfl) fun ty pos af => ?_
          refine s_val hF (x_load rfl (m_load flat22 (mg.cell (j := 2) rfl))) (by decide) fun a hF => ?_
          refine s_end ⟨hS, ?_⟩
          refine d_one 5 (some 33) (Go.Op.call (Go.Call.mk (Go.Callee.builtin Go.Builtin.append) #[(Go.Operand.tmp 29), (Go.Operand.tmp 32)] #[22, 22])) (by kernel_rfl) (by kernel_rfl) fun ty pos af => ?_
          refine s_appL (o := o2) el22 hF (by decide) rfl rfl hO ml rfl (one_lc h1z) hat (by omega) (by omega) (by decide) (by omega) fun v3 w76 a o3 hOn hOatn how hsrc k77 hkeep hF => ?_
          have sk77 := k77.size
          have hB := k77.under hB (by omega)
          have m2 : Blk w76 b2 _ _ := (hkeep _ m2.lt hne2).trans m2
          have mg : Blk w76 b3 _ _ := (hkeep _ mg.lt hne).trans mg
          have hP := hP.k2 k77 (fun k (hk : w0.heap.size ≤ k ∧ k ≠ b2 ∧ k ≠ b3 ∧ k ≠ o2 ∧ k < top) => by omega)
          have m5 := m5.k2 k77 (by omega)
          have hz := hz.k2 k77 (fun k (hk : w56.heap.size ≤ k ∧ k < w66.heap.size) => by omega)
          have ml := ml.k2 k77 (by omega)
          have hS := hS.trans k77 (by omega)
          have hO := hOn
          have hO_at := hOatn
          have hneg : v3.ownBlock ≠ some b3 := fun h => by rcases hsrc b3 h with h | h; exact hne h; omega
          have hneg2 : v3.ownBlock ≠ some b2 := fun h => by rcases hsrc b2 h with h | h; exact hne2 h; omega
          refine s_end ⟨hS, ?_⟩
          refine d_val 6 34 (op := (Go.Op.fieldAddr 24 (Go.Operand.tmp 3) 2)) hF hS (by kernel_rfl) (fun W hW => x_fa0 fa24_2 rfl) (by kernel_rfl) (by decide) fun a hF => ?_
          refine d_one 7 none (Go.Op.store 22 (Go.Operand.tmp 34) (Go.Operand.tmp 33)) (by kernel_rfl) (by kernel_rfl) fun ty pos af => ?_
          refine s_put hF rfl rfl flat22 mg (by first | (simp; done) | (simp [tc, lc]; done) | decide) (Rd.own hO).one fun w78 mg o79 => ?_
          have so79 := o79.size
          have hB := hB.trans (o79.below (by omega))
          have m2 := m2.only o79 (by omega)
          have hO := own_only hO o79 (hneg)
          have hP := hP.only o79 (fun k (hk : w0.heap.size ≤ k ∧ k ≠ b2 ∧ k ≠ b3 ∧ k ≠ o2 ∧ k < top) => by omega)
          have m5 := m5.only o79 (by omega)
          have hz := hz.only o79 (fun k (hk : w56.heap.size ≤ k ∧ k < w66.heap.size) => by omega)
          have ml := ml.only o79 (by omega)
          have hS := hS.only o79 (by omega)
          refine s_end ⟨hS, ?_⟩
          refine d_end (by kernel_rfl) (hK24 _ _ ?_)
          refine hK22 _ _ ?_
          refine wp_region_lit ?_
          refine s_val hF (x_addn (i + 1) (by omega) (by omega) rfl rfl) (by decide) fun a hF => ?_
          refine s_val hF (x_move rfl) (by decide) fun a hF => ?_
          have hL2 : (ls.map cpy).take (i + 1) = (ls.map cpy).take i ++ [cpy p] := take_snoc (by rw [List.getElem?_map, hp]; rfl)
          refine s_end (hK' _ _ (by omega) ⟨v3, o3, zs ++ [z], by rw [fm3_app]; simpa using hO, hO_at, hneg, hneg2, by omega, by rw [hL2]; exact (hP.mono (fun k (hk : w0.heap.size ≤ k ∧ k ≠ b2 ∧ k ≠ b3 ∧ k ≠ o2 ∧ k < top) => (by omega : _ ∧ _ ∧ _ ∧ _ ∧ _))).snoc (hz.mono (fun k (hk : w56.heap.size ≤ k ∧ k < w66.heap.size) => (by omega : _ ∧ _ ∧ _ ∧ _ ∧ _))), mg, m2, hB, hF.sub _ rfl⟩)
    · refine wp_exit (hK18 _ _ ?_)
      refine wp_rs fun K25 hK25 => ?_
      refine s_val hF (x_ldW wide24 mg rfl rfl) (by decide) fun a hF => ?_
      refine s_putW hF rfl rfl (size_wide wide24) m2 rfl (one3 h1vv) fun w82 m2 o83 => ?_
      have so83 := o83.size
      have hB := hB.trans (o83.below (by omega))
      have mg := mg.only o83 (by omega)
      have hO := own_only hO o83 (hne2)
      have hP := hP.only o83 (fun k (hk : w0.heap.size ≤ k ∧ k ≠ b2 ∧ k ≠ b3 ∧ k ≠ o2 ∧ k < top) => by omega)
      refine s_end (hK25 _ _ ?_)
      have hall : (ls.map cpy).take i = ls.map cpy := List.take_of_length_le (by rw [List.length_map]; omega)
      rw [hall] at hP
      refine wp_ret (res_cell hF rfl rfl m2 wide24 ⟨_, rfl, ⟨(k, n, vv), rfl, by rw [hcp]; exact .mk ⟨Rd.own hO, fun _ j h => (hO.lt j h).1⟩ hP.1 ((hP.mono (B := fun k => w0.heap.size ≤ k) (fun k (hk : w0.heap.size ≤ k ∧ k ≠ b2 ∧ k ≠ b3 ∧ k ≠ o2 ∧ k < top) => (by omega : _ ≤ _))).2)⟩, hB⟩)
  · have hcp : cpy (.mk k n ls) = .mk k n (ls.map cpy) := by simp [cpy, hk1, cpys_map]
    refine wp_rs fun K26 hK26 => ?_
    refine s_val hF (x_eql (b := false) (decide_eq_false (by omega)) rfl rfl) (by decide) fun a hF => ?_
    refine s_val hF (x_assign rfl) (by decide) fun a hF => ?_
    refine s_end (hK26 _ _ ?_)
    refine wp_if hF rfl ?_
    refine wp_rs fun K27 hK27 => ?_
    refine s_val hF (x_eql (b := false) (decide_eq_false (by omega)) rfl rfl) (by decide) fun a hF => ?_
    refine s_val hF (x_assign rfl) (by decide) fun a hF => ?_
    refine s_end (hK27 _ _ ?_)
    refine wp_if hF rfl ?_
    refine wp_region_lit ?_
    refine s_val hF (x_eql (b := true) (decide_eq_true (by omega)) rfl rfl) (by decide) fun a hF => ?_
    refine s_val hF (x_assign rfl) (by decide) fun a hF => ?_
    refine s_end (hK5 _ _ ?_)
    refine wp_if hF rfl ?_
    refine wp_region_lit ?_
    refine s_val hF (x_fa0 fa24_1 rfl) (by decide) fun a hF => ?_
    refine s_val hF (x_load rfl (m_load flat3 (m1.cell (j := 1) rfl))) (by decide) fun a hF => ?_
    refine s_val hF (x_fa0 fa24_1 rfl) (by decide) fun a hF => ?_
    refine s_put hF rfl rfl flat3 m3 (by first | (simp; done) | (simp [tc, lc]; done) | decide) rfl fun w84 m3 o85 => ?_
    have so85 := o85.size
    have hB := hB.trans (o85.below (by omega))
    have m1 := m1.only o85 (by omega)
    have m2 := m2.only o85 (by omega)
    refine s_end (hK3 _ _ ?_)
    refine wp_seq_k fun K28 hK28 => ?_
    refine wp_rs fun K29 hK29 => ?_
    refine s_val hF (x_fa0 fa24_2 rfl) (by decide) fun a hF => ?_
    refine s_val hF (x_load rfl (m_load flat22 (m1.cell (j := 2) rfl))) (by decide) fun a hF => ?_
    refine s_val hF (x_len Try.underlying22 rfl) (by decide) fun a hF => ?_
    refine s_val hF (x_move rfl) (by decide) fun a hF => ?_
    refine s_end (hK29 _ _ ?_)
    refine wp_block ?_
    refine wp_up xs.length (fun i a w => ∃ v' o' zs, w.ownsRow w0.heap.size 24 3 v' zs.length (zs.flatMap lc) ∧ (∀ j, v'.ownBlock = some j → j = o') ∧ v'.ownBlock ≠ some b3 ∧ v'.ownBlock ≠ some b2 ∧ (w0.heap.size ≤ o' ∧ o' < w.heap.size ∧ (o' = b3 ∨ b3 < o')) ∧ QL w (fun k => w0.heap.size ≤ k ∧ k ≠ b2 ∧ k ≠ b3 ∧ k ≠ o' ∧ k < w.heap.size) zs ((ls.map cpy).take i) ∧ Blk w b3 24 [.int .i64 k, .int .i64 n, v'] ∧ Blk w b2 24 [.int .i64 0, .int .i64 0, .slice none 0 0] ∧ Below w0.heap.size w0 w ∧ Fs 37 a [(24, .int .i64 (i : Int)), (23, .int .i64 (xs.length : Int)), (22, .slice av xs.length cv), (2, .pointer (some ⟨b2, 0, none⟩)), (3, .pointer (some ⟨b3, 0, none⟩))]) ⟨_, b3, [], World.ownsRow_nil _ _ _ _, (fun j h => by cases h), (fun h => by cases h), (fun h => by cases h), by have := m3.lt; omega, by rw [List.take_zero]; exact QL.nil, m3, m2, hB, hF.sub _ rfl⟩ ?_
    have hbb : w0.heap.size ≤ b2 ∧ b2 < b3 := ⟨by omega, by omega⟩
    repeat clear hF
    clear hB m2 m3
    rintro i a w hi ⟨vv, o2, zs, hO, hat, hne, hne2, hlo, hP, mg, m2, hB, hF⟩ K' hK'
    have sB := hB.size
    have hgl := mg.lt
    obtain ⟨top, htop⟩ : ∃ h, h = w.heap.size := ⟨_, rfl⟩
    rw [← htop] at hP
    have hPl := hP.1
    rw [List.length_take, List.length_map] at hPl
    have h1vv := (Rd.own hO).one
    refine wp_rs fun K30 hK30 => ?_
    refine s_val hF (x_lss rfl rfl rfl) (by decide) fun a hF => ?_
    refine s_end (hK30 _ _ ?_)
    refine wp_seq_k fun K31 hK31 => ?_
    refine wp_iff hF rfl (fun hc25 => ?_) (fun hc25 => ?_)
    · obtain ⟨b, off, c, y, hve, hy, hrow⟩ := rd_row3 hR (i := i) (by omega)
      cases hve
      obtain ⟨p, hp⟩ : ∃ p, ls[i]? = some p := ⟨_, List.getElem?_eq_getElem (by omega)⟩
      have hps := szs_take hp
      have hsl1 := szs_le ls (i + 1)
      have hty := hk i y p hy hp
      have h1y := hty.one1
      refine wp_skip (hK31 _ _ ?_)
      refine wp_seq_k fun K32 hK32 => ?_
      refine wp_block ?_
      refine wp_rs fun K33 hK33 => ?_
      refine s_val hF (x_ixa rfl rfl (m_ixsK i Try.underlying22 el22.size rfl (by omega))) (by decide) fun a hF => ?_
      refine s_val hF (x_ldA wide24 (hrow _ hB) rfl rfl) (by decide) fun a hF => ?_
      refine s_alloc hF (by decide) zero24 fun w86 b5 a eb5 m5 B87 zb5 hF => ?_
      have sB87 := B87.size
      have hB := hB.trans (B87.mono hB.size)
      have m2 := m2.old B87
      have mg := mg.old B87
      have hO := own_below hO B87
      have hP := hP.below B87
      refine s_putW hF rfl rfl (size_wide wide24) m5 rfl (one_lc h1y) fun w90 m5 o91 => ?_
      have so91 := o91.size
      have hB := hB.trans (o91.below (by omega))
      have m2 := m2.only o91 (by omega)
      have mg := mg.only o91 (by omega)
      have hO := own_only hO o91 (fun e => by have := hat _ e; omega)
      have hP := hP.only o91 (fun k (hk : w0.heap.size ≤ k ∧ k ≠ b2 ∧ k ≠ b3 ∧ k ≠ o2 ∧ k < top) => by omega)
      refine s_end (hK33 _ _ ?_)
      refine dk2_one (b3) (o2) (ops := regOps Try.f141 12) (N := 8) (by kernel_rfl) wide_orders (by kernel_rfl) fun w92 hw92 B93 hS K34 hK34 => ?_
      have zw92 : w92.heap.size = w90.heap.size := by rw [hw92]
      have sB93 := B93.size
      have hB := hB.trans (B93.mono hB.size)
      have m2 := m2.old B93
      have mg := mg.old B93
      have hO := own_below hO B93
      have hP := hP.below B93
      have m5 := m5.old B93
      have m2_d := m2
      have mg_d := mg
      have hO_d := hO
      have hP_d := hP
      have m5_d := m5
      have hB_d := hB
      refine d_val 0 28 (op := (Go.Op.fieldAddr 24 (Go.Operand.tmp 3) 2)) hF hS (by kernel_rfl) (fun W hW => x_fa0 fa24_2 rfl) (by kernel_rfl) (by decide) fun a hF => ?_
      refine d_val 2 30 (op := (Go.Op.load 24 (Go.Operand.tmp 5))) hF hS (by kernel_rfl) (fun W hW => x_ldW wide24 (m5_d.k2 hW (by omega)) rfl rfl) (by kernel_rfl) (by decide) fun a hF => ?_
      refine d_two 1 3 (by kernel_rfl) ?_ ?_
      · refine d_op 1 (some 29) (Go.Op.load 22 (Go.Operand.tmp 28)) (by kernel_rfl) fun ty pos af => ?_
        refine s_val hF (x_load rfl (m_load flat22 (mg.cell (j := 2) rfl))) (by decide) fun a hF => ?_
        refine s_end ⟨hS, ?_⟩
        refine d_one 3 (some 31) (Go.Op.call (Go.Call.mk (Go.Callee.value (Go.Operand.func 141)) #[(Go.Operand.tmp 30)] #[24])) (by kernel_rfl) (by kernel_rfl) fun ty pos af => ?_
        refine s_callR (R := fun u w' => ∃ z, u = lv z ∧ RLx w' (fun k => w92.heap.size ≤ k) z (cpy p)) [_] hF (enters_of Try.func141 (by kernel_rfl) rfl) rfl (by decide) (ih p y w92 (by omega) (by omega) (RL_b hB hty)) ?_
        rintro _ w94 a ⟨z, rfl, hz0⟩ B95 hF
        have sB95 := B95.size
        have hB := hB.trans (B95.mono hB.size)
        have m2 := m2.old B95
        have mg := mg.old B95
        have hO := own_below hO B95
        have hP := hP.below B95
        have m5 := m5.old B95
        have hS := hS.below B95
        have hz := hz0.valid
        clear hz0
        have h1z := hz.rl.one1
        refine s_end ⟨hS, ?_⟩
        refine d_one 4 (some 32) (Go.Op.buildSlice 22 1 #[(0, (Go.Operand.tmp 31))]) (by kernel_rfl) (by kernel_rfl) fun ty pos af => ?_
        refine s_litG [lv z] el22 hF (by decide) rfl (by simp [Value.cells, lc]) rfl (by decide) (by decide) fun w96 bl a ebl ml B97 zbl hF => ?_
        have sB97 := B97.size
        have hB := hB.trans (B97.mono hB.size)
        have m2 := m2.old B97
        have mg := mg.old B97
        have hO := own_below hO B97
        have hP := hP.below B97
        have m5 := m5.old B97
        have hz := hz.below B97
        have hS := hS.below B97
        have ml : Blk w96 bl 24 (lc z) := by simpa [Value.cells] using ml
        refine s_end ⟨hS, ?_⟩
        refine d_one 5 (some 33) (Go.Op.call (Go.Call.mk (Go.Callee.builtin Go.Builtin.append) #[(Go.Operand.tmp 29), (Go.Operand.tmp 32)] #[22, 22])) (by kernel_rfl) (by kernel_rfl) fun ty pos af => ?_
        refine s_appL (o := o2) el22 hF (by decide) rfl rfl hO ml rfl (one_lc h1z) hat (by omega) (by omega) (by decide) (by omega) fun v3 w98 a o3 hOn hOatn how hsrc k99 hkeep hF => ?_
        have sk99 := k99.size
        have hB := k99.under hB (by omega)
        have m2 : Blk w98 b2 _ _ := (hkeep _ m2.lt hne2).trans m2
        have mg : Blk w98 b3 _ _ := (hkeep _ mg.lt hne).trans mg
        have hP := hP.k2 k99 (fun k (hk : w0.heap.size ≤ k ∧ k ≠ b2 ∧ k ≠ b3 ∧ k ≠ o2 ∧ k < top) => by omega)
        have m5 := m5.k2 k99 (by omega)
        have hz := hz.k2 k99 (fun k (hk : w92.heap.size ≤ k ∧ k < w94.heap.size) => by omega)
        have ml := ml.k2 k99 (by omega)
        have hS := hS.trans k99 (by omega)
        have hO := hOn
        have hO_at := hOatn
        have hneg : v3.ownBlock ≠ some b3 := fun h => by rcases hsrc b3 h with h | h; exact hne h; omega
        have hneg2 : v3.ownBlock ≠ some b2 := fun h => by rcases hsrc b2 h with h | h; exact hne2 h; omega
        refine s_end ⟨hS, ?_⟩
        refine d_val 6 34 (op := (Go.Op.fieldAddr 24 (Go.Operand.tmp 3) 2)) hF hS (by kernel_rfl) (fun W hW => x_fa0 fa24_2 rfl) (by kernel_rfl) (by decide) fun a hF => ?_
        refine d_one 7 none (Go.Op.store 22 (Go.Operand.tmp 34) (Go.Operand.tmp 33)) (by kernel_rfl) (by kernel_rfl) fun ty pos af => ?_
        refine s_put hF rfl rfl flat22 mg (by first | (simp; done) | (simp [tc, lc]; done) | decide) (Rd.own hO).one fun w100 mg o101 => ?_
        have so101 := o101.size
        have hB := hB.trans (o101.below (by omega))
        have m2 := m2.only o101 (by omega)
        have hO := own_only hO o101 (hneg)
        have hP := hP.only o101 (fun k (hk : w0.heap.size ≤ k ∧ k ≠ b2 ∧ k ≠ b3 ∧ k ≠ o2 ∧ k < top) => by omega)
        have m5 := m5.only o101 (by omega)
        have hz := hz.only o101 (fun k (hk : w92.heap.size ≤ k ∧ k < w94.heap.size) => by omega)
        have ml := ml.only o101 (by omega)
        have hS := hS.only o101 (by omega)
        refine s_end ⟨hS, ?_⟩
        refine d_end (by kernel_rfl) (hK34 _ _ ?_)
        refine hK32 _ _ ?_
        refine wp_region_lit ?_
        refine s_val hF (x_addn (i + 1) (by omega) (by omega) rfl rfl) (by decide) fun a hF => ?_
        refine s_val hF (x_move rfl) (by decide) fun a hF => ?_
        have hL2 : (ls.map cpy).take (i + 1) = (ls.map cpy).take i ++ [cpy p] := take_snoc (by rw [List.getElem?_map, hp]; rfl)
        refine s_end (hK' _ _ (by omega) ⟨v3, o3, zs ++ [z], by rw [fm3_app]; simpa using hO, hO_at, hneg, hneg2, by omega, by rw [hL2]; exact (hP.mono (fun k (hk : w0.heap.size ≤ k ∧ k ≠ b2 ∧ k ≠ b3 ∧ k ≠ o2 ∧ k < top) => (by omega : _ ∧ _ ∧ _ ∧ _ ∧ _))).snoc (hz.mono (fun k (hk : w92.heap.size ≤ k ∧ k < w94.heap.size) => (by omega : _ ∧ _ ∧ _ ∧ _ ∧ _))), mg, m2, hB, hF.sub _ rfl⟩)
      · refine d_op 3 (some 31) (Go.Op.call (Go.Call.mk (Go.Callee.value (Go.Operand.func 141)) #[(Go.Operand.tmp 30)] #[24])) (by kernel_rfl) fun ty pos af => ?_
        refine s_callR (R := fun u w' => ∃ z, u = lv z ∧ RLx w' (fun k => w92.heap.size ≤ k) z (cpy p)) [_] hF (enters_of Try.func141 (by kernel_rfl) rfl) rfl (by decide) (ih p y w92 (by omega) (by omega) (RL_b hB hty)) ?_
        rintro _ w102 a ⟨z, rfl, hz0⟩ B103 hF
        have sB103 := B103.size
        have hB := hB.trans (B103.mono hB.size)
        have m2 := m2.old B103
        have mg := mg.old B103
        have hO := own_below hO B103
        have hP := hP.below B103
        have m5 := m5.old B103
        have hS := hS.below B103
        have hz := hz0.valid
        clear hz0
        have h1z := hz.rl.one1
        refine s_end ⟨hS, ?_⟩
        refine d_two 1 4 (by kernel_rfl) ?_ ?_
        · refine d_op 1 (some 29) (Go.Op.load 22 (Go.Operand.tmp 28)) (by kernel_rfl) fun ty pos af => ?_
          refine s_val hF (x_load rfl (m_load flat22 (mg.cell (j := 2) rfl))) (by decide) fun a hF => ?_
          refine s_end ⟨hS, ?_⟩
          refine d_one 4 (some 32) (Go.Op.buildSlice 22 1 #[(0, (Go.Operand.tmp 31))]) (by kernel_rfl) (by kernel_rfl) fun ty pos af => ?_
          refine s_litG [lv z] el22 hF (by decide) rfl (by simp [Value.cells, lc]) rfl (by decide) (by decide) fun w104 bl a ebl ml B105 zbl hF => ?_
          have sB105 := B105.size
          have hB := hB.trans (B105.mono hB.size)
          have m2 := m2.old B105
          have mg := mg.old B105
          have hO := own_below hO B105
          have hP := hP.below B105
          have m5 := m5.old B105
          have hz := hz.below B105
          have hS := hS.below B105
          have ml : Blk w104 bl 24 (lc z) := by simpa [Value.cells] using ml
          refine s_end ⟨hS, ?_⟩
          refine d_one 5 (some 33) (Go.Op.call (Go.Call.mk (Go.Callee.builtin Go.Builtin.append) #[(Go.Operand.tmp 29), (Go.Operand.tmp 32)] #[22, 22])) (by kernel_rfl) (by kernel_rfl) fun ty pos af => ?_
          refine s_appL (o := o2) el22 hF (by decide) rfl rfl hO ml rfl (one_lc h1z) hat (by omega) (by omega) (by decide) (by omega) fun v3 w106 a o3 hOn hOatn how hsrc k107 hkeep hF => ?_
          have sk107 := k107.size
          have hB := k107.under hB (by omega)
          have m2 : Blk w106 b2 _ _ := (hkeep _ m2.lt hne2).trans m2
          have mg : Blk w106 b3 _ _ := (hkeep _ mg.lt hne).trans mg
          have hP := hP.k2 k107 (fun k (hk : w0.heap.size ≤ k ∧ k ≠ b2 ∧ k ≠ b3 ∧ k ≠ o2 ∧ k < top) => by omega)
          have m5 := m5.k2 k107 (by omega)
          have hz := hz.k2 k107 (fun k (hk : w92.heap.size ≤ k ∧ k < w102.heap.size) => by omega)
          have ml := ml.k2 k107 (by omega)
          have hS := hS.trans k107 (by omega)
          have hO := hOn
          have hO_at := hOatn
          have hneg : v3.ownBlock ≠ some b3 := fun h => by rcases hsrc b3 h with h | h; exact hne h; omega
          have hneg2 : v3.ownBlock ≠ some b2 := fun h => by rcases hsrc b2 h with h | h; exact hne2 h; omega
          refine s_end ⟨hS, ?_⟩
          refine d_val 6 34 (op := (Go.Op.fieldAddr 24 (Go.Operand.tmp 3) 2)) hF hS (by kernel_rfl) (fun W hW => x_fa0 fa24_2 rfl) (by kernel_rfl) (by decide) fun a hF => ?_
          refine d_one 7 none (Go.Op.store 22 (Go.Operand.tmp 34) (Go.Operand.tmp 33)) (by kernel_rfl) (by kernel_rfl) fun ty pos af => ?_
          refine s_put hF rfl rfl flat22 mg (by first | (simp; done) | (simp [tc, lc]; done) | decide) (Rd.own hO).one fun w108 mg o109 => ?_
          have so109 := o109.size
          have hB := hB.trans (o109.below (by omega))
          have m2 := m2.only o109 (by omega)
          have hO := own_only hO o109 (hneg)
          have hP := hP.only o109 (fun k (hk : w0.heap.size ≤ k ∧ k ≠ b2 ∧ k ≠ b3 ∧ k ≠ o2 ∧ k < top) => by omega)
          have m5 := m5.only o109 (by omega)
          have hz := hz.only o109 (fun k (hk : w92.heap.size ≤ k ∧ k < w102.heap.size) => by omega)
          have ml := ml.only o109 (by omega)
          have hS := hS.only o109 (by omega)
          refine s_end ⟨hS, ?_⟩
          refine d_end (by kernel_rfl) (hK34 _ _ ?_)
          refine hK32 _ _ ?_
          refine wp_region_lit ?_
          refine s_val hF (x_addn (i + 1) (by omega) (by omega) rfl rfl) (by decide) fun a hF => ?_
          refine s_val hF (x_move rfl) (by decide) fun a hF => ?_
          have hL2 : (ls.map cpy).take (i + 1) = (ls.map cpy).take i ++ [cpy p] := take_snoc (by rw [List.getElem?_map, hp]; rfl)
          refine s_end (hK' _ _ (by omega) ⟨v3, o3, zs ++ [z], by rw [fm3_app]; simpa using hO, hO_at, hneg, hneg2, by omega, by rw [hL2]; exact (hP.mono (fun k (hk : w0.heap.size ≤ k ∧ k ≠ b2 ∧ k ≠ b3 ∧ k ≠ o2 ∧ k < top) => (by omega : _ ∧ _ ∧ _ ∧ _ ∧ _))).snoc (hz.mono (fun k (hk : w92.heap.size ≤ k ∧ k < w102.heap.size) => (by omega : _ ∧ _ ∧ _ ∧ _ ∧ _))), mg, m2, hB, hF.sub _ rfl⟩)
        · refine d_op 4 (some 32) (Go.Op.buildSlice 22 1 #[(0, (Go.Operand.tmp 31))]) (by kernel_rfl) fun ty pos af => ?_
          refine s_litG [lv z] el22 hF (by decide) rfl (by simp [Value.cells, lc]) rfl (by decide) (by decide) fun w110 bl a ebl ml B111 zbl hF => ?_
          have sB111 := B111.size
          have hB := hB.trans (B111.mono hB.size)
          have m2 := m2.old B111
          have mg := mg.old B111
          have hO := own_below hO B111
          have hP := hP.below B111
          have m5 := m5.old B111
          have hz := hz.below B111
          have hS := hS.below B111
          have ml : Blk w110 bl 24 (lc z) := by simpa [Value.cells] using ml
          refine s_end ⟨hS, ?_⟩
          refine d_one 1 (some 29) (Go.Op.load 22 (Go.Operand.tmp 28)) (by kernel_rfl) (by kernel_rfl) fun ty pos af => ?_
          refine s_val hF (x_load rfl (m_load flat22 (mg.cell (j := 2) rfl))) (by decide) fun a hF => ?_
          refine s_end ⟨hS, ?_⟩
          refine d_one 5 (some 33) (Go.Op.call (Go.Call.mk (Go.Callee.builtin Go.Builtin.append) #[(Go.Operand.tmp 29), (Go.Operand.tmp 32)] #[22, 22])) (by kernel_rfl) (by kernel_rfl) fun ty pos af => ?_
          refine s_appL (o := o2) el22 hF (by decide) rfl rfl hO ml rfl (one_lc h1z) hat (by omega) (by omega) (by decide) (by omega) fun v3 w112 a o3 hOn hOatn how hsrc k113 hkeep hF => ?_
          have sk113 := k113.size
          have hB := k113.under hB (by omega)
          have m2 : Blk w112 b2 _ _ := (hkeep _ m2.lt hne2).trans m2
          have mg : Blk w112 b3 _ _ := (hkeep _ mg.lt hne).trans mg
          have hP := hP.k2 k113 (fun k (hk : w0.heap.size ≤ k ∧ k ≠ b2 ∧ k ≠ b3 ∧ k ≠ o2 ∧ k < top) => by omega)
          have m5 := m5.k2 k113 (by omega)
          have hz := hz.k2 k113 (fun k (hk : w92.heap.size ≤ k ∧ k < w102.heap.size) => by omega)
          have ml := ml.k2 k113 (by omega)
          have hS := hS.trans k113 (by omega)
          have hO := hOn
          have hO_at := hOatn
          have hneg : v3.ownBlock ≠ some b3 := fun h => by rcases hsrc b3 h with h | h; exact hne h; omega
          have hneg2 : v3.ownBlock ≠ some b2 := fun h => by rcases hsrc b2 h with h | h; exact hne2 h; omega
          refine s_end ⟨hS, ?_⟩
          refine d_val 6 34 (op := (Go.Op.fieldAddr 24 (Go.Operand.tmp 3) 2)) hF hS (by kernel_rfl) (fun W hW => x_fa0 fa24_2 rfl) (by kernel_rfl) (by decide) fun a hF => ?_
          refine d_one 7 none (Go.Op.store 22 (Go.Operand.tmp 34) (Go.Operand.tmp 33)) (by kernel_rfl) (by kernel_rfl) fun ty pos af => ?_
          refine s_put hF rfl rfl flat22 mg (by first | (simp; done) | (simp [tc, lc]; done) | decide) (Rd.own hO).one fun w114 mg o115 => ?_
          have so115 := o115.size
          have hB := hB.trans (o115.below (by omega))
          have m2 := m2.only o115 (by omega)
          have hO := own_only hO o115 (hneg)
          have hP := hP.only o115 (fun k (hk : w0.heap.size ≤ k ∧ k ≠ b2 ∧ k ≠ b3 ∧ k ≠ o2 ∧ k < top) => by omega)
          have m5 := m5.only o115 (by omega)
          have hz := hz.only o115 (fun k (hk : w92.heap.size ≤ k ∧ k < w102.heap.size) => by omega)
          have ml := ml.only o115 (by omega)
          have hS := hS.only o115 (by omega)
          refine s_end ⟨hS, ?_⟩
          refine d_end (by kernel_rfl) (hK34 _ _ ?_)
          refine hK32 _ _ ?_
          refine wp_region_lit ?_
          refine s_val hF (x_addn (i + 1) (by omega) (by omega) rfl rfl) (by decide) fun a hF => ?_
          refine s_val hF (x_move rfl) (by decide) fun a hF => ?_
          have hL2 : (ls.map cpy).take (i + 1) = (ls.map cpy).take i ++ [cpy p] := take_snoc (by rw [List.getElem?_map, hp]; rfl)
          refine s_end (hK' _ _ (by omega) ⟨v3, o3, zs ++ [z], by rw [fm3_app]; simpa using hO, hO_at, hneg, hneg2, by omega, by rw [hL2]; exact (hP.mono (fun k (hk : w0.heap.size ≤ k ∧ k ≠ b2 ∧ k ≠ b3 ∧ k ≠ o2 ∧ k < top) => (by omega : _ ∧ _ ∧ _ ∧ _ ∧ _))).snoc (hz.mono (fun k (hk : w92.heap.size ≤ k ∧ k < w102.heap.size) => (by omega : _ ∧ _ ∧ _ ∧ _ ∧ _))), mg, m2, hB, hF.sub _ rfl⟩)
    · refine wp_exit (hK28 _ _ ?_)
      refine wp_rs fun K35 hK35 => ?_
      refine s_val hF (x_ldW wide24 mg rfl rfl) (by decide) fun a hF => ?_
      refine s_putW hF rfl rfl (size_wide wide24) m2 rfl (one3 h1vv) fun w118 m2 o119 => ?_
      have so119 := o119.size
      have hB := hB.trans (o119.below (by omega))
      have mg := mg.only o119 (by omega)
      have hO := own_only hO o119 (hne2)
      have hP := hP.only o119 (fun k (hk : w0.heap.size ≤ k ∧ k ≠ b2 ∧ k ≠ b3 ∧ k ≠ o2 ∧ k < top) => by omega)
      refine s_end (hK35 _ _ ?_)
      have hall : (ls.map cpy).take i = ls.map cpy := List.take_of_length_le (by rw [List.length_map]; omega)
      rw [hall] at hP
      refine wp_ret (res_cell hF rfl rfl m2 wide24 ⟨_, rfl, ⟨(k, n, vv), rfl, by rw [hcp]; exact .mk ⟨Rd.own hO, fun _ j h => (hO.lt j h).1⟩ hP.1 ((hP.mono (B := fun k => w0.heap.size ≤ k) (fun k (hk : w0.heap.size ≤ k ∧ k ≠ b2 ∧ k ≠ b3 ∧ k ≠ o2 ∧ k < top) => (by omega : _ ≤ _))).2)⟩, hB⟩)
  · have hcp : cpy (.mk k n ls) = .mk k 0 (ls.map cpy) := by simp [cpy, hk1, cpys_map]
    refine wp_rs fun K36 hK36 => ?_
    refine s_val hF (x_eql (b := false) (decide_eq_false (by omega)) rfl rfl) (by decide) fun a hF => ?_
    refine s_val hF (x_assign rfl) (by decide) fun a hF => ?_
    refine s_end (hK36 _ _ ?_)
    refine wp_if hF rfl ?_
    refine wp_rs fun K37 hK37 => ?_
    refine s_val hF (x_eql (b := false) (decide_eq_false (by omega)) rfl rfl) (by decide) fun a hF => ?_
    refine s_val hF (x_assign rfl) (by decide) fun a hF => ?_
    refine s_end (hK37 _ _ ?_)
    refine wp_if hF rfl ?_
    refine wp_region_lit ?_
    refine s_val hF (x_eql (b := false) (decide_eq_false (by omega)) rfl rfl) (by decide) fun a hF => ?_
    refine s_val hF (x_assign rfl) (by decide) fun a hF => ?_
    refine s_end (hK5 _ _ ?_)
    refine wp_if hF rfl ?_
    refine wp_rs fun K38 hK38 => ?_
    refine s_val hF (x_eql (b := true) (decide_eq_true (by omega)) rfl rfl) (by decide) fun a hF => ?_
    refine s_val hF (x_assign rfl) (by decide) fun a hF => ?_
    refine s_end (hK38 _ _ ?_)
    refine wp_if hF rfl ?_
    refine wp_skip (hK3 _ _ ?_)
    refine wp_seq_k fun K39 hK39 => ?_
    refine wp_rs fun K40 hK40 => ?_
    refine s_val hF (x_fa0 fa24_2 rfl) (by decide) fun a hF => ?_
    refine s_val hF (x_load rfl (m_load flat22 (m1.cell (j := 2) rfl))) (by decide) fun a hF => ?_
    refine s_val hF (x_len Try.underlying22 rfl) (by decide) fun a hF => ?_
    refine s_val hF (x_move rfl) (by decide) fun a hF => ?_
    refine s_end (hK40 _ _ ?_)
    refine wp_block ?_
    refine wp_up xs.length (fun i a w => ∃ v' o' zs, w.ownsRow w0.heap.size 24 3 v' zs.length (zs.flatMap lc) ∧ (∀ j, v'.ownBlock = some j → j = o') ∧ v'.ownBlock ≠ some b3 ∧ v'.ownBlock ≠ some b2 ∧ (w0.heap.size ≤ o' ∧ o' < w.heap.size ∧ (o' = b3 ∨ b3 < o')) ∧ QL w (fun k => w0.heap.size ≤ k ∧ k ≠ b2 ∧ k ≠ b3 ∧ k ≠ o' ∧ k < w.heap.size) zs ((ls.map cpy).take i) ∧ Blk w b3 24 [.int .i64 k, .int .i64 0, v'] ∧ Blk w b2 24 [.int .i64 0, .int .i64 0, .slice none 0 0] ∧ Below w0.heap.size w0 w ∧ Fs 37 a [(24, .int .i64 (i : Int)), (23, .int .i64 (xs.length : Int)), (22, .slice av xs.length cv), (2, .pointer (some ⟨b2, 0, none⟩)), (3, .pointer (some ⟨b3, 0, none⟩))]) ⟨_, b3, [], World.ownsRow_nil _ _ _ _, (fun j h => by cases h), (fun h => by cases h), (fun h => by cases h), by have := m3.lt; omega, by rw [List.take_zero]; exact QL.nil, m3, m2, hB, hF.sub _ rfl⟩ ?_
    have hbb : w0.heap.size ≤ b2 ∧ b2 < b3 := ⟨by omega, by omega⟩
    repeat clear hF
    clear hB m2 m3
    rintro i a w hi ⟨vv, o2, zs, hO, hat, hne, hne2, hlo, hP, mg, m2, hB, hF⟩ K' hK'
    have sB := hB.size
    have hgl := mg.lt
    obtain ⟨top, htop⟩ : ∃ h, h = w.heap.size := ⟨_, rfl⟩
    rw [← htop] at hP
    have hPl := hP.1
    rw [List.length_take, List.length_map] at hPl
    have h1vv := (Rd.own hO).one
    refine wp_rs fun K41 hK41 => ?_
    refine s_val hF (x_lss rfl rfl rfl) (by decide) fun a hF => ?_
    refine s_end (hK41 _ _ ?_)
    refine wp_seq_k fun K42 hK42 => ?_
    refine wp_iff hF rfl (fun hc25 => ?_) (fun hc25 => ?_)
    · obtain ⟨b, off, c, y, hve, hy, hrow⟩ := rd_row3 hR (i := i) (by omega)
      cases hve
      obtain ⟨p, hp⟩ : ∃ p, ls[i]? = some p := ⟨_, List.getElem?_eq_getElem (by omega)⟩
      have hps := szs_take hp
      have hsl1 := szs_le ls (i + 1)
      have hty := hk i y p hy hp
      have h1y := hty.one1
      refine wp_skip (hK42 _ _ ?_)
      refine wp_seq_k fun K43 hK43 => ?_
      refine wp_block ?_
      refine wp_rs fun K44 hK44 => ?_
      refine s_val hF (x_ixa rfl rfl (m_ixsK i Try.underlying22 el22.size rfl (by omega))) (by decide) fun a hF => ?_
      refine s_val hF (x_ldA wide24 (hrow _ hB) rfl rfl) (by decide) fun a hF => ?_
      refine s_alloc hF (by decide) zero24 fun w120 b5 a eb5 m5 B121 zb5 hF => ?_
      have sB121 := B121.size
      have hB := hB.trans (B121.mono hB.size)
      have m2 := m2.old B121
      have mg := mg.old B121
      have hO := own_below hO B121
      have hP := hP.below B121
      refine s_putW hF rfl rfl (size_wide wide24) m5 rfl (one_lc h1y) fun w124 m5 o125 => ?_
      have so125 := o125.size
      have hB := hB.trans (o125.below (by omega))
      have m2 := m2.only o125 (by omega)
      have mg := mg.only o125 (by omega)
      have hO := own_only hO o125 (fun e => by have := hat _ e; omega)
      have hP := hP.only o125 (fun k (hk : w0.heap.size ≤ k ∧ k ≠ b2 ∧ k ≠ b3 ∧ k ≠ o2 ∧ k < top) => by omega)
      refine s_end (hK44 _ _ ?_)
      refine dk2_one (b3) (o2) (ops := regOps Try.f141 12) (N := 8) (by kernel_rfl) wide_orders (by kernel_rfl) fun w126 hw126 B127 hS K45 hK45 => ?_
      have zw126 : w126.heap.size = w124.heap.size := by rw [hw126]
      have sB127 := B127.size
      have hB := hB.trans (B127.mono hB.size)
      have m2 := m2.old B127
      have mg := mg.old B127
      have hO := own_below hO B127
      have hP := hP.below B127
      have m5 := m5.old B127
      have m2_d := m2
      have mg_d := mg
      have hO_d := hO
      have hP_d := hP
      have m5_d := m5
      have hB_d := hB
      refine d_val 0 28 (op := (Go.Op.fieldAddr 24 (Go.Operand.tmp 3) 2)) hF hS (by kernel_rfl) (fun W hW => x_fa0 fa24_2 rfl) (by kernel_rfl) (by decide) fun a hF => ?_
      refine d_val 2 30 (op := (Go.Op.load 24 (Go.Operand.tmp 5))) hF hS (by kernel_rfl) (fun W hW => x_ldW wide24 (m5_d.k2 hW (by omega)) rfl rfl) (by kernel_rfl) (by decide) fun a hF => ?_
      refine d_two 1 3 (by kernel_rfl) ?_ ?_
      · refine d_op 1 (some 29) (Go.Op.load 22 (Go.Operand.tmp 28)) (by kernel_rfl) fun ty pos af => ?_
        refine s_val hF (x_load rfl (m_load flat22 (mg.cell (j := 2) rfl))) (by decide) fun a hF => ?_
        refine s_end ⟨hS, ?_⟩
        refine d_one 3 (some 31) (Go.Op.call (Go.Call.mk (Go.Callee.value (Go.Operand.func 141)) #[(Go.Operand.tmp 30)] #[24])) (by kernel_rfl) (by kernel_rfl) fun ty pos af => ?_
        refine s_callR (R := fun u w' => ∃ z, u = lv z ∧ RLx w' (fun k => w126.heap.size ≤ k) z (cpy p)) [_] hF (enters_of Try.func141 (by kernel_rfl) rfl) rfl (by decide) (ih p y w126 (by omega) (by omega) (RL_b hB hty)) ?_
        rintro _ w128 a ⟨z, rfl, hz0⟩ B129 hF
        have sB129 := B129.size
        have hB := hB.trans (B129.mono hB.size)
        have m2 := m2.old B129
        have mg := mg.old B129
        have hO := own_below hO B129
        have hP := hP.below B129
        have m5 := m5.old B129
        have hS := hS.below B129
        have hz := hz0.valid
        clear hz0
        have h1z := hz.rl.one1
        refine s_end ⟨hS, ?_⟩
        refine d_one 4 (some 32) (Go.Op.buildSlice 22 1 #[(0, (Go.Operand.tmp 31))]) (by kernel_rfl) (by kernel_rfl) fun ty pos af => ?_
        refine s_litG [lv z] el22 hF (by decide) rfl (by simp [Value.cells, lc]) rfl (by decide) (by decide) fun w130 bl a ebl ml B131 zbl hF => ?_
        have sB131 := B131.size
        have hB := hB.trans (B131.mono hB.size)
        have m2 := m2.old B131
        have mg := mg.old B131
        have hO := own_below hO B131
        have hP := hP.below B131
        have m5 := m5.old B131
        have hz := hz.below B131
        have hS := hS.below B131
        have ml : Blk w130 bl 24 (lc z) := by simpa [Value.cells] using ml
        refine s_end ⟨hS, ?_⟩
        refine d_one 5 (some 33) (Go.Op.call (Go.Call.mk (Go.Callee.builtin Go.Builtin.append) #[(Go.Operand.tmp 29), (Go.Operand.tmp 32)] #[22, 22])) (by kernel_rfl) (by kernel_rfl) fun ty pos af => ?_
        refine s_appL (o := o2) el22 hF (by decide) rfl rfl hO ml rfl (one_lc h1z) hat (by omega) (by omega) (by decide) (by omega) fun v3 w132 a o3 hOn hOatn how hsrc k133 hkeep hF => ?_
        have sk133 := k133.size
        have hB := k133.under hB (by omega)
        have m2 : Blk w132 b2 _ _ := (hkeep _ m2.lt hne2).trans m2
        have mg : Blk w132 b3 _ _ := (hkeep _ mg.lt hne).trans mg
        have hP := hP.k2 k133 (fun k (hk : w0.heap.size ≤ k ∧ k ≠ b2 ∧ k ≠ b3 ∧ k ≠ o2 ∧ k < top) => by omega)
        have m5 := m5.k2 k133 (by omega)
        have hz := hz.k2 k133 (fun k (hk : w126.heap.size ≤ k ∧ k < w128.heap.size) => by omega)
        have ml := ml.k2 k133 (by omega)
        have hS := hS.trans k133 (by omega)
        have hO := hOn
        have hO_at := hOatn
        have hneg : v3.ownBlock ≠ some b3 := fun h => by rcases hsrc b3 h with h | h; exact hne h; omega
        have hneg2 : v3.ownBlock ≠ some b2 := fun h => by rcases hsrc b2 h with h | h; exact hne2 h; omega
        refine s_end ⟨hS, ?_⟩
        refine d_val 6 34 (op := (Go.Op.fieldAddr 24 (Go.Operand.tmp 3) 2)) hF hS (by kernel_rfl) (fun W hW => x_fa0 fa24_2 rfl) (by kernel_rfl) (by decide) fun a hF => ?_
        refine d_one 7 none (Go.Op.store 22 (Go.Operand.tmp 34) (Go.Operand.tmp 33)) (by kernel_rfl) (by kernel_rfl) fun ty pos af => ?_
        refine s_put hF rfl rfl flat22 mg (by first | (simp; done) | (simp [tc, lc]; done) | decide) (Rd.own hO).one fun w134 mg o135 => ?_
        have so135 := o135.size
        have hB := hB.trans (o135.below (by omega))
        have m2 := m2.only o135 (by omega)
        have hO := own_only hO o135 (hneg)
        have hP := hP.only o135 (fun k (hk : w0.heap.size ≤ k ∧ k ≠ b2 ∧ k ≠ b3 ∧ k ≠ o2 ∧ k < top) => by omega)
        have m5 := m5.only o135 (by omega)
        have hz := hz.only o135 (fun k (hk : w126.heap.size ≤ k ∧ k < w128.heap.size) => by omega)
        have ml := ml.only o135 (by omega)
        have hS := hS.only o135 (by omega)
        refine s_end ⟨hS, ?_⟩
        refine d_end (by kernel_rfl) (hK45 _ _ ?_)
        refine hK43 _ _ ?_
        refine wp_region_lit ?_
        refine s_val hF (x_addn (i + 1) (by omega) (by omega) rfl rfl) (by decide) fun a hF => ?_
        refine s_val hF (x_move rfl) (by decide) fun a hF => ?_
        have hL2 : (ls.map cpy).take (i + 1) = (ls.map cpy).take i ++ [cpy p] := take_snoc (by rw [List.getElem?_map, hp]; rfl)
        refine s_end (hK' _ _ (by omega) ⟨v3, o3, zs ++ [z], by rw [fm3_app]; simpa using hO, hO_at, hneg, hneg2, by omega, by rw [hL2]; exact (hP.mono (fun k (hk : w0.heap.size ≤ k ∧ k ≠ b2 ∧ k ≠ b3 ∧ k ≠ o2 ∧ k < top) => (by omega : _ ∧ _ ∧ _ ∧ _ ∧ _))).snoc (hz.mono (fun k (hk : w126.heap.size ≤ k ∧ k < w128.heap.size) => (by omega : _ ∧ _ ∧ _ ∧ _ ∧ _))), mg, m2, hB, hF.sub _ rfl⟩)
      · refine d_op 3 (some 31) (Go.Op.call (Go.Call.mk (Go.Callee.value (Go.Operand.func 141)) #[(Go.Operand.tmp 30)] #[24])) (by kernel_rfl) fun ty pos af => ?_
        refine s_callR (R := fun u w' => ∃ z, u = lv z ∧ RLx w' (fun k => w126.heap.size ≤ k) z (cpy p)) [_] hF (enters_of Try.func141 (by kernel_rfl) rfl) rfl (by decide) (ih p y w126 (by omega) (by omega) (RL_b hB hty)) ?_
        rintro _ w136 a ⟨z, rfl, hz0⟩ B137 hF
        have sB137 := B137.size
        have hB := hB.trans (B137.mono hB.size)
        have m2 := m2.old B137
        have mg := mg.old B137
        have hO := own_below hO B137
        have hP := hP.below B137
        have m5 := m5.old B137
        have hS := hS.below B137
        have hz := hz0.valid
        clear hz0
        have h1z := hz.rl.one1
        refine s_end ⟨hS, ?_⟩
        refine d_two 1 4 (by kernel_rfl) ?_ ?_
        · refine d_op 1 (some 29) (Go.Op.load 22 (Go.Operand.tmp 28)) (by kernel_rfl) fun ty pos af => ?_
          refine s_val hF (x_load rfl (m_load flat22 (mg.cell (j := 2) rfl))) (by decide) fun a hF => ?_
          refine s_end ⟨hS, ?_⟩
          refine d_one 4 (some 32) (Go.Op.buildSlice 22 1 #[(0, (Go.Operand.tmp 31))]) (by kernel_rfl) (by kernel_rfl) fun ty pos af => ?_
          refine s_litG [lv z] el22 hF (by decide) rfl (by simp [Value.cells, lc]) rfl (by decide) (by decide) fun w138 bl a ebl ml B139 zbl hF => ?_
          have sB139 := B139.size
          have hB := hB.trans (B139.mono hB.size)
          have m2 := m2.old B139
          have mg := mg.old B139
          have hO := own_below hO B139
          have hP := hP.below B139
          have m5 := m5.old B139
          have hz := hz.below B139
          have hS := hS.below B139
          have ml : Blk w138 bl 24 (lc z) := by simpa [Value.cells] using ml
          refine s_end ⟨hS, ?_⟩
          refine d_one 5 (some 33) (Go.Op.call (Go.Call.mk (Go.Callee.builtin Go.Builtin.append) #[(Go.Operand.tmp 29), (Go.Operand.tmp 32)] #[22, 22])) (by kernel_rfl) (by kernel_rfl) fun ty pos af => ?_
          refine s_appL (o := o2) el22 hF (by decide) rfl rfl hO ml rfl (one_lc h1z) hat (by omega) (by omega) (by decide) (by omega) fun v3 w140 a o3 hOn hOatn how hsrc k141 hkeep hF => ?_
          have sk141 := k141.size
          have hB := k141.under hB (by omega)
          have m2 : Blk w140 b2 _ _ := (hkeep _ m2.lt hne2).trans m2
          have mg : Blk w140 b3 _ _ := (hkeep _ mg.lt hne).trans mg
          have hP := hP.k2 k141 (fun k (hk : w0.heap.size ≤ k ∧ k ≠ b2 ∧ k ≠ b3 ∧ k ≠ o2 ∧ k < top) => by omega)
          have m5 := m5.k2 k141 (by omega)
          have hz := hz.k2 k141 (fun k (hk : w126.heap.size ≤ k ∧ k < w136.heap.size) => by omega)
          have ml := ml.k2 k141 (by omega)
          have hS := hS.trans k141 (by omega)
          have hO := hOn
          have hO_at := hOatn
          have hneg : v3.ownBlock ≠ some b3 := fun h => by rcases hsrc b3 h with h | h; exact hne h; omega
          have hneg2 : v3.ownBlock ≠ some b2 := fun h => by rcases hsrc b2 h with h | h; exact hne2 h; omega
          refine s_end ⟨hS, ?_⟩
          refine d_val 6 34 (op := (Go.Op.fieldAddr 24 (Go.Operand.tmp 3) 2)) hF hS (by kernel_rfl) (fun W hW => x_fa0 fa24_2 rfl) (by kernel_rfl) (by decide) fun a hF => ?_
          refine d_one 7 none (Go.Op.store 22 (Go.Operand.tmp 34) (Go.Operand.tmp 33)) (by kernel_rfl) (by kernel_rfl) fun ty pos af => ?_
          refine s_put hF rfl rfl flat22 mg (by first | (simp; done) | (simp [tc, lc]; done) | decide) (Rd.own hO).one fun w142 mg o143 => ?_
          have so143 := o143.size
          have hB := hB.trans (o143.below (by omega))
          have m2 := m2.only o143 (by omega)
          have hO := own_only hO o143 (hneg)
          have hP := hP.only o143 (fun k (hk : w0.heap.size ≤ k ∧ k ≠ b2 ∧ k ≠ b3 ∧ k ≠ o2 ∧ k < top) => by omega)
          have m5 := m5.only o143 (by omega)
          have hz := hz.only o143 (fun k (hk : w126.heap.size ≤ k ∧ k < w136.heap.size) => by omega)
          have ml := ml.only o143 (by omega)
          have hS := hS.only o143 (by omega)
          refine s_end ⟨hS, ?_⟩
          refine d_end (by kernel_rfl) (hK45 _ _ ?_)
          refine hK43 _ _ ?_
          refine wp_region_lit ?_
          refine s_val hF (x_addn (i + 1) (by omega) (by omega) rfl rfl) (by decide) fun a hF => ?_
          refine s_val hF (x_move rfl) (by decide) fun a hF => ?_
          have hL2 : (ls.map cpy).take (i + 1) = (ls.map cpy).take i ++ [cpy p] := take_snoc (by rw [List.getElem?_map, hp]; rfl)
          refine s_end (hK' _ _ (by omega) ⟨v3, o3, zs ++ [z], by rw [fm3_app]; simpa using hO, hO_at, hneg, hneg2, by omega, by rw [hL2]; exact (hP.mono (fun k (hk : w0.heap.size ≤ k ∧ k ≠ b2 ∧ k ≠ b3 ∧ k ≠ o2 ∧ k < top) => (by omega : _ ∧ _ ∧ _ ∧ _ ∧ _))).snoc (hz.mono (fun k (hk : w126.heap.size ≤ k ∧ k < w136.heap.size) => (by omega : _ ∧ _ ∧ _ ∧ _ ∧ _))), mg, m2, hB, hF.sub _ rfl⟩)
        · refine d_op 4 (some 32) (Go.Op.buildSlice 22 1 #[(0, (Go.Operand.tmp 31))]) (by kernel_rfl) fun ty pos af => ?_
          refine s_litG [lv z] el22 hF (by decide) rfl (by simp [Value.cells, lc]) rfl (by decide) (by decide) fun w144 bl a ebl ml B145 zbl hF => ?_
          have sB145 := B145.size
          have hB := hB.trans (B145.mono hB.size)
          have m2 := m2.old B145
          have mg := mg.old B145
          have hO := own_below hO B145
          have hP := hP.below B145
          have m5 := m5.old B145
          have hz := hz.below B145
          have hS := hS.below B145
          have ml : Blk w144 bl 24 (lc z) := by simpa [Value.cells] using ml
          refine s_end ⟨hS, ?_⟩
          refine d_one 1 (some 29) (Go.Op.load 22 (Go.Operand.tmp 28)) (by kernel_rfl) (by kernel_rfl) fun ty pos af => ?_
          refine s_val hF (x_load rfl (m_load flat22 (mg.cell (j := 2) rfl))) (by decide) fun a hF => ?_
          refine s_end ⟨hS, ?_⟩
          refine d_one 5 (some 33) (Go.Op.call (Go.Call.mk (Go.Callee.builtin Go.Builtin.append) #[(Go.Operand.tmp 29), (Go.Operand.tmp 32)] #[22, 22])) (by kernel_rfl) (by kernel_rfl) fun ty pos af => ?_
          refine s_appL (o := o2) el22 hF (by decide) rfl rfl hO ml rfl (one_lc h1z) hat (by omega) (by omega) (by decide) (by omega) fun v3 w146 a o3 hOn hOatn how hsrc k147 hkeep hF => ?_
          have sk147 := k147.size
          have hB := k147.under hB (by omega)
          have m2 : Blk w146 b2 _ _ := (hkeep _ m2.lt hne2).trans m2
          have mg : Blk w146 b3 _ _ := (hkeep _ mg.lt hne).trans mg
          have hP := hP.k2 k147 (fun k (hk : w0.heap.size ≤ k ∧ k ≠ b2 ∧ k ≠ b3 ∧ k ≠ o2 ∧ k < top) => by omega)
          have m5 := m5.k2 k147 (by omega)
          have hz := hz.k2 k147 (fun k (hk : w126.heap.size ≤ k ∧ k < w136.heap.size) => by omega)
          have ml := ml.k2 k147 (by omega)
          have hS := hS.trans k147 (by omega)
          have hO := hOn
          have hO_at := hOatn
          have hneg : v3.ownBlock ≠ some b3 := fun h => by rcases hsrc b3 h with h | h; exact hne h; omega
          have hneg2 : v3.ownBlock ≠ some b2 := fun h => by rcases hsrc b2 h with h | h; exact hne2 h; omega
          refine s_end ⟨hS, ?_⟩
          refine d_val 6 34 (op := (Go.Op.fieldAddr 24 (Go.Operand.tmp 3) 2)) hF hS (by kernel_rfl) (fun W hW => x_fa0 fa24_2 rfl) (by kernel_rfl) (by decide) fun a hF => ?_
          refine d_one 7 none (Go.Op.store 22 (Go.Operand.tmp 34) (Go.Operand.tmp 33)) (by kernel_rfl) (by kernel_rfl) fun ty pos af => ?_
          refine s_put hF rfl rfl flat22 mg (by first | (simp; done) | (simp [tc, lc]; done) | decide) (Rd.own hO).one fun w148 mg o149 => ?_
          have so149 := o149.size
          have hB := hB.trans (o149.below (by omega))
          have m2 := m2.only o149 (by omega)
          have hO := own_only hO o149 (hneg)
          have hP := hP.only o149 (fun k (hk : w0.heap.size ≤ k ∧ k ≠ b2 ∧ k ≠ b3 ∧ k ≠ o2 ∧ k < top) => by omega)
          have m5 := m5.only o149 (by omega)
          have hz := hz.only o149 (fun k (hk : w126.heap.size ≤ k ∧ k < w136.heap.size) => by omega)
          have ml := ml.only o149 (by omega)
          have hS := hS.only o149 (by omega)
          refine s_end ⟨hS, ?_⟩
          refine d_end (by kernel_rfl) (hK45 _ _ ?_)
          refine hK43 _ _ ?_
          refine wp_region_lit ?_
          refine s_val hF (x_addn (i + 1) (by omega) (by omega) rfl rfl) (by decide) fun a hF => ?_
          refine s_val hF (x_move rfl) (by decide) fun a hF => ?_
          have hL2 : (ls.map cpy).take (i + 1) = (ls.map cpy).take i ++ [cpy p] := take_snoc (by rw [List.getElem?_map, hp]; rfl)
          refine s_end (hK' _ _ (by omega) ⟨v3, o3, zs ++ [z], by rw [fm3_app]; simpa using hO, hO_at, hneg, hneg2, by omega, by rw [hL2]; exact (hP.mono (fun k (hk : w0.heap.size ≤ k ∧ k ≠ b2 ∧ k ≠ b3 ∧ k ≠ o2 ∧ k < top) => (by omega : _ ∧ _ ∧ _ ∧ _ ∧ _))).snoc (hz.mono (fun k (hk : w126.heap.size ≤ k ∧ k < w136.heap.size) => (by omega : _ ∧ _ ∧ _ ∧ _ ∧ _))), mg, m2, hB, hF.sub _ rfl⟩)
    · refine wp_exit (hK39 _ _ ?_)
      refine wp_rs fun K46 hK46 => ?_
      refine s_val hF (x_ldW wide24 mg rfl rfl) (by decide) fun a hF => ?_
      refine s_putW hF rfl rfl (size_wide wide24) m2 rfl (one3 h1vv) fun w152 m2 o153 => ?_
      have so153 := o153.size
      have hB := hB.trans (o153.below (by omega))
      have mg := mg.only o153 (by omega)
      have hO := own_only hO o153 (hne2)
      have hP := hP.only o153 (fun k (hk : w0.heap.size ≤ k ∧ k ≠ b2 ∧ k ≠ b3 ∧ k ≠ o2 ∧ k < top) => by omega)
      refine s_end (hK46 _ _ ?_)
      have hall : (ls.map cpy).take i = ls.map cpy := List.take_of_length_le (by rw [List.length_map]; omega)
      rw [hall] at hP
      refine wp_ret (res_cell hF rfl rfl m2 wide24 ⟨_, rfl, ⟨(k, 0, vv), rfl, by rw [hcp]; exact .mk ⟨Rd.own hO, fun _ j h => (hO.lt j h).1⟩ hP.1 ((hP.mono (B := fun k => w0.heap.size ≤ k) (fun k (hk : w0.heap.size ≤ k ∧ k ≠ b2 ∧ k ≠ b3 ∧ k ≠ o2 ∧ k < top) => (by omega : _ ≤ _))).2)⟩, hB⟩)
  · have hcp : cpy (.mk k n ls) = .mk k 0 [] := by simp [cpy, hk1, cpys_map]
    refine wp_rs fun K47 hK47 => ?_
    refine s_val hF (x_eql (b := false) (decide_eq_false (by omega)) rfl rfl) (by decide) fun a hF => ?_
    refine s_val hF (x_assign rfl) (by decide) fun a hF => ?_
    refine s_end (hK47 _ _ ?_)
    refine wp_if hF rfl ?_
    refine wp_rs fun K48 hK48 => ?_
    refine s_val hF (x_eql (b := false) (decide_eq_false (by omega)) rfl rfl) (by decide) fun a hF => ?_
    refine s_val hF (x_assign rfl) (by decide) fun a hF => ?_
    refine s_end (hK48 _ _ ?_)
    refine wp_if hF rfl ?_
    refine wp_region_lit ?_
    refine s_val hF (x_eql (b := false) (decide_eq_false (by omega)) rfl rfl) (by decide) fun a hF => ?_
    refine s_val hF (x_assign rfl) (by decide) fun a hF => ?_
    refine s_end (hK5 _ _ ?_)
    refine wp_if hF rfl ?_
    refine wp_rs fun K49 hK49 => ?_
    refine s_val hF (x_eql (b := false) (decide_eq_false (by omega)) rfl rfl) (by decide) fun a hF => ?_
    refine s_val hF (x_assign rfl) (by decide) fun a hF => ?_
    refine s_end (hK49 _ _ ?_)
    refine wp_if hF rfl ?_
    refine wp_rs fun K50 hK50 => ?_
    refine s_val hF (x_ldW wide24 m3 rfl rfl) (by decide) fun a hF => ?_
    refine s_putW hF rfl rfl (size_wide wide24) m2 rfl (one3 rfl) fun w156 m2 o157 => ?_
    have so157 := o157.size
    have hB := hB.trans (o157.below (by omega))
    have m1 := m1.only o157 (by omega)
    have m3 := m3.only o157 (by omega)
    refine s_end (hK50 _ _ ?_)
    refine wp_ret (inb_ret (then_ret (res_cell hF rfl rfl m2 wide24 ⟨_, rfl, ⟨(k, 0, .slice none 0 0), rfl, by rw [hcp]; exact .mk (xs := []) (Rn.nil _ _ 3) rfl (fun i x l h => by simp at h)⟩, hB⟩)))

/-- A level as it was, or a copy of it. -/
def isCp (l l' : Lv) : Prop := l' = l ∨ l' = cpy l
theorem isCp.slO {W : World} {x : C3} {l l' : Lv} (h : isCp l l') (hL : RL W x l) : slO l' = slO l := by
  rcases h with rfl | rfl
  · rfl
  · exact slO_cpy hL

set_option maxRecDepth 100000 in
set_option maxHeartbeats 400000 in
theorem ownL153 (w0 : World) (A : Nat → Prop) (hA : ∀ k, A k → k < w0.heap.size) (l : Lv) (x : C3) (hL : RLn w0 A x l) : Calls Try.prog 138 #[lv x] w0 fun e w' => ∃ u, e = .returned u ∧ (∃ z l', u = lv z ∧ RLn w' (fun k => A k ∨ w0.heap.size ≤ k) z l' ∧ isCp l l') ∧ Below w0.heap.size w0 w' := by
  have hB := Below.refl w0.heap.size w0
  have sB := hB.size
  refine calls_fs 10 [(0, lv x)] Try.func138 rfl rfl rfl rfl rfl fun a hF => ?_
  refine wp_rs fun K1 hK1 => ?_
  refine s_box (lc x) hF (by decide) rfl rfl fun w2 b1 a eb1 m1 B3 zb1 hF => ?_
  have sB3 := B3.size
  have hB := hB.trans (B3.mono hB.size)
  refine s_alloc hF (by decide) zero24 fun w4 b2 a eb2 m2 B5 zb2 hF => ?_
  have sB5 := B5.size
  have hB := hB.trans (B5.mono hB.size)
  have m1 := m1.old B5
  refine s_end (hK1 _ _ ?_)
  refine wp_rs fun K2 hK2 => ?_
  refine s_alloc1 hF (by decide) zero3 rfl fun w6 b3 a eb3 m3 B7 zb3 hF => ?_
  have sB7 := B7.size
  have hB := hB.trans (B7.mono hB.size)
  have m1 := m1.old B7
  have m2 := m2.old B7
  refine s_put hF rfl rfl flat3 m3 (by first | (simp; done) | (simp [tc, lc]; done) | decide) rfl fun w8 m3 o9 => ?_
  have so9 := o9.size
  have hB := hB.trans (o9.below (by omega))
  have m1 := m1.only o9 (by omega)
  have m2 := m2.only o9 (by omega)
  refine s_end (hK2 _ _ ?_)
  refine wp_seq_k fun K3 hK3 => ?_
  refine wp_rs fun K4 hK4 => ?_
  refine s_val hF (x_ldW wide24 m1 rfl rfl) (by decide) fun a hF => ?_
  refine s_call (R := fun u w' => (∃ b r', u = .bool b ∧ Blk w' b3 3 [.int .i64 ((r' : Nat) : Int)] ∧ (b = true → r' + l.sz = 53687091) ∧ r' ≤ 53687091) ∧ Ktw b3 b3 w8 w') hF [_, _, _] (enters_of Try.func140 (by kernel_rfl) rfl) rfl (by decide) (fitsL154 w0 b3 (by omega) (l.sz + 1) l x (by omega) hL.rl 65536 53687091 w8 (by omega) (by omega) hB m3) ?_
  rintro _ w10 a ⟨⟨b5, r5, rfl, m3, h5, h5r⟩, k11⟩ hF
  have sk11 := k11.size
  have hB := k11.under hB (by omega)
  have m1 := m1.k2 k11 (by omega)
  have m2 := m2.k2 k11 (by omega)
  refine s_val hF (x_not rfl) (by decide) fun a hF => ?_
  refine s_end (hK4 _ _ ?_)
  refine wp_ifb hF rfl (fun hc6 => ?_) (fun hc6 => ?_)
  · refine wp_rs fun K5 hK5 => ?_
    refine s_val hF (x_ldW wide24 m1 rfl rfl) (by decide) fun a hF => ?_
    refine s_putW hF rfl rfl (size_wide wide24) m2 rfl (one_lc hL.rl.one1) fun w14 m2 o15 => ?_
    have so15 := o15.size
    have hB := hB.trans (o15.below (by omega))
    have m1 := m1.only o15 (by omega)
    have m3 := m3.only o15 (by omega)
    refine s_end (hK5 _ _ ?_)
    refine wp_ret (then_ret (res_cell hF rfl rfl m2 wide24 ⟨_, rfl, ⟨x, l, rfl, (hL.keep hB.size (fun k hk _ => hB.block k (hA k hk))).mono (fun k hk => .inl hk), .inl rfl⟩, hB⟩))
  · obtain rfl : b5 = true := by simpa using hc6
    have h6 := h5 rfl
    refine wp_skip (hK3 _ _ ?_)
    refine wp_rs fun K6 hK6 => ?_
    refine s_val hF (x_ldW wide24 m1 rfl rfl) (by decide) fun a hF => ?_
    refine s_callR (R := fun u w' => ∃ z, u = lv z ∧ RLx w' (fun k => w10.heap.size ≤ k) z (cpy l)) [_] hF (enters_of Try.func141 (by kernel_rfl) rfl) rfl (by decide) (copiedL155 (l.sz + 1) l x w10 (by omega) (by omega) (RL_b hB hL.rl)) ?_
    rintro _ w16 a ⟨z, rfl, hz⟩ B17 hF
    have sB17 := B17.size
    have hB := hB.trans (B17.mono hB.size)
    have m1 := m1.old B17
    have m2 := m2.old B17
    have m3 := m3.old B17
    have h1z := hz.rl.one1
    refine s_putW hF rfl rfl (size_wide wide24) m2 rfl (one_lc h1z) fun w20 m2 o21 => ?_
    have so21 := o21.size
    have hB := hB.trans (o21.below (by omega))
    have m1 := m1.only o21 (by omega)
    have m3 := m3.only o21 (by omega)
    have hz := hz.only o21 (fun k (hk : w10.heap.size ≤ k) => by omega)
    refine s_end (hK6 _ _ ?_)
    refine wp_ret (res_cell hF rfl rfl m2 wide24 ⟨_, rfl, ⟨z, _, rfl, hz.mono (fun k (hk : w10.heap.size ≤ k) => .inr (by omega : _ ≤ _)), .inr rfl⟩, hB⟩)

set_option maxRecDepth 100000 in
set_option maxHeartbeats 400000 in
theorem plusL145 (w0 : World) (A : Nat → Prop) (hA : ∀ k, A k → k < w0.heap.size) (l : Lv) (x : C3) (hL : RLn w0 A x l) : Calls Try.prog 130 #[.int .i64 0, lv x] w0 fun e w' => ∃ u, e = .returned u ∧ (∃ z l', u = lv z ∧ RLn w' (fun k => A k ∨ w0.heap.size ≤ k) z l' ∧ isCp l l') ∧ Below w0.heap.size w0 w' := by
  have hB := Below.refl w0.heap.size w0
  have sB := hB.size
  refine calls_fs 22 [(0, .int .i64 0), (1, lv x)] Try.func130 rfl rfl rfl rfl rfl fun a hF => ?_
  refine wp_rs fun K1 hK1 => ?_
  refine s_box (lc x) hF (by decide) rfl rfl fun w2 b3 a eb3 m3 B3 zb3 hF => ?_
  have sB3 := B3.size
  have hB := hB.trans (B3.mono hB.size)
  refine s_alloc hF (by decide) zero24 fun w4 b4 a eb4 m4 B5 zb4 hF => ?_
  have sB5 := B5.size
  have hB := hB.trans (B5.mono hB.size)
  have m3 := m3.old B5
  refine s_end (hK1 _ _ ?_)
  refine wp_rs fun K2 hK2 => ?_
  refine s_val hF (x_ldW wide24 m3 rfl rfl) (by decide) fun a hF => ?_
  refine s_callR (R := fun u w' => ∃ z l', u = lv z ∧ RLx w' (fun k => A k ∨ w4.heap.size ≤ k) z l' ∧ isCp l l') [_] hF (enters_of Try.func138 (by kernel_rfl) rfl) rfl (by decide) (ownL153 w4 A (fun k hk => by have := hA k hk; omega) l x (hL.keep hB.size (fun k hk _ => hB.block k (hA k hk)))) ?_
  rintro _ w6 a ⟨z, l2, rfl, hz, hcp⟩ B7 hF
  have sB7 := B7.size
  have hB := hB.trans (B7.mono hB.size)
  have m3 := m3.old B7
  have m4 := m4.old B7
  have hz : RLx w6 (fun k => k < w0.heap.size ∧ A k ∨ w4.heap.size ≤ k) z l2 := hz.mono (fun k hk => hk.elim (fun h => .inl ⟨hA k h, h⟩) .inr)
  have h1z := hz.rl.one1
  refine s_putW hF rfl rfl (size_wide wide24) m3 rfl (one_lc h1z) fun w10 m3 o11 => ?_
  have so11 := o11.size
  have hB := hB.trans (o11.below (by omega))
  have m4 := m4.only o11 (by omega)
  have hz := hz.only o11 (fun k (hk : k < w0.heap.size ∧ A k ∨ w4.heap.size ≤ k) => by omega)
  refine s_end (hK2 _ _ ?_)
  refine wp_seq_k fun K3 hK3 => ?_
  refine wp_rs fun K4 hK4 => ?_
  refine s_val hF (x_move rfl) (by decide) fun a hF => ?_
  refine s_val hF (x_lss (b := true) (decide_eq_true (by omega)) rfl rfl) (by decide) fun a hF => ?_
  refine s_end (hK4 _ _ ?_)
  refine wp_if hF rfl ?_
  refine wp_rs fun K5 hK5 => ?_
  refine s_val hF (x_ldW wide24 m3 rfl rfl) (by decide) fun a hF => ?_
  refine s_putW hF rfl rfl (size_wide wide24) m4 rfl (one_lc h1z) fun w14 m4 o15 => ?_
  have so15 := o15.size
  have hB := hB.trans (o15.below (by omega))
  have m3 := m3.only o15 (by omega)
  have hz := hz.only o15 (fun k (hk : k < w0.heap.size ∧ A k ∨ w4.heap.size ≤ k) => by omega)
  refine s_end (hK5 _ _ ?_)
  refine wp_ret (then_ret (res_cell hF rfl rfl m4 wide24 ⟨_, rfl, ⟨z, l2, rfl, hz.mono (fun k hk => hk.elim (fun h => .inl h.2) (fun h => .inr (by omega))), hcp⟩, hB⟩))
end Go.Proofs.Ytaclncmkdpjnlaa

namespace Go.Proofs.Ytaclncmkdpjnlaa
open Go.RowKit Go.Shelf
set_option linter.unusedVariables false
set_option linter.unusedSimpArgs false

section
variable {P : Program} {n : Nat} {l : List (Nat × Value)} {w : World}
theorem x_quon {t t' : TypeId} {x y : Operand} {p q : Int} (r : Int) (h0 : 0 < q) (hp : 0 ≤ p) (hp2 : p < 9223372036854775808) (h1 : p / q = r) (hx : ov l x = some (.int .i64 p)) (hy : ov l y = some (.int .i64 q)) : Runs P n l w (.binOp .quo t x y t') (.int .i64 r) :=
  x_bin hx hy (b_int fun W => by
    have h2 : p.tdiv q = r := by rw [Int.tdiv_eq_ediv_of_nonneg hp]; exact h1
    have h3 : 0 ≤ r := by rw [← h1]; exact Int.ediv_nonneg hp (by omega)
    have h4 : r ≤ p := by rw [← h1]; exact Int.ediv_le_self _ hp
    simp [binOp, Op.intDiv, show q ≠ 0 by omega, h2, wrap_i64 (by omega : -9223372036854775808 ≤ r) (by omega)])
end
def Lv.kids : Lv → List Lv
  | .mk _ _ ls => ls
theorem Lv.kids_sz : ∀ l : Lv, l.sz = Lv.szs l.kids + 1
  | .mk _ _ _ => rfl
theorem RLn.kids {W : World} {A : Nat → Prop} {x : C3} {l : Lv} (h : RLn W A x l) : RVn W A x.2.2 l.kids := by
  cases h with
  | mk hR hl hk => exact ⟨_, hR, hl, hk⟩
theorem RVn.row {W : World} {A : Nat → Prop} {v : Value} {ls : List Lv} (h : RVn W A v ls) {i : Nat} (hi : i < ls.length) :
    ∃ b off c x y, v = .slice (some ⟨b, off, none⟩) ls.length c ∧ ls[i]? = some y ∧ RLn W A x y ∧ A b ∧ b < W.heap.size ∧ ∀ W' : World, W'.heap[b]? = W.heap[b]? → ∀ j u, (lc x)[j]? = some u → W'.cell? ((⟨b, off + i * 3, none⟩ : Addr).add j) = some u := by
  obtain ⟨xs, h1, h2, h3⟩ := h
  obtain ⟨b, off, c, rfl, hb⟩ := h1.1.some (by omega)
  refine ⟨b, off, c, xs[i]'(by omega), ls[i], by rw [h2], List.getElem?_eq_getElem hi, h3 i _ _ (List.getElem?_eq_getElem (by omega)) (List.getElem?_eq_getElem hi), h1.2 (by omega) b rfl, hb, fun W' hB j u hj => ?_⟩
  rw [addr_addn, Nat.add_assoc]
  exact (World.cell?_of_block (w := W) (a := ⟨b, off + (i * 3 + j), none⟩) hB).trans (h1.1.cell (fm3_get xs i j _ u (List.getElem?_eq_getElem (by omega)) hj))
def sumT (cs : List CT) : Nat := (cs.map CT.size).sum
theorem CT.kids_sum (c : CT) : c.size = sumT c.kids + 1 := by cases c <;> simp [CT.size, sumT, CT.kids]; omega
theorem sumT_get {cs : List CT} {i : Nat} {p : CT} (h : cs[i]? = some p) : p.size ≤ sumT cs := by
  have hm : p ∈ cs := List.mem_of_getElem? h
  clear h
  induction cs with
  | nil => cases hm
  | cons c cs ih =>
    simp only [sumT, List.map_cons, List.sum_cons]
    rcases List.mem_cons.1 hm with rfl | hm'
    · omega
    · have := ih hm'
      simp only [sumT] at this
      omega
theorem szs_get {ls : List Lv} {i : Nat} {p : Lv} (h : ls[i]? = some p) : p.sz ≤ Lv.szs ls := by
  have := szs_take h
  have := szs_le ls (i + 1)
  omega
theorem CT.dep_kids {c : CT} {n : Nat} (h : ∀ k ∈ c.kids, k.dep ≤ n) : c.dep ≤ n + 1 := by
  cases c <;> simp only [CT.kids, List.mem_cons, List.not_mem_nil, or_false, forall_eq_or_imp, forall_eq, CT.dep] at h ⊢ <;> omega

set_option maxRecDepth 100000 in
set_option maxHeartbeats 1600000 in
theorem kidsL144 (x : C3) (w0 : World) (h1 : x.2.2.oneCell' = true) : Calls Try.prog 129 #[lv x] w0 fun e w' => e = .returned x.2.2 ∧ Below w0.heap.size w0 w' := by
  have hB := Below.refl w0.heap.size w0
  have sB := hB.size
  refine calls_fs 5 [(0, lv x)] Try.func129 rfl rfl rfl rfl rfl fun a hF => ?_
  refine wp_rs fun K1 hK1 => ?_
  refine s_box (lc x) hF (by decide) rfl rfl fun w2 b1 a eb1 m1 B3 zb1 hF => ?_
  have sB3 := B3.size
  have hB := hB.trans (B3.mono hB.size)
  refine s_val hF (x_assign rfl) (by decide) fun a hF => ?_
  refine s_end (hK1 _ _ ?_)
  refine wp_rs fun K2 hK2 => ?_
  refine s_val hF (x_fa0 fa24_2 rfl) (by decide) fun a hF => ?_
  refine s_val hF (x_load rfl (m_load flat22 (m1.cell (j := 2) rfl))) (by decide) fun a hF => ?_
  refine s_val hF (x_assign rfl) (by decide) fun a hF => ?_
  refine s_end (hK2 _ _ ?_)
  refine wp_ret (res_slot hF rfl rfl ⟨rfl, hB⟩)

set_option maxRecDepth 100000 in
set_option maxHeartbeats 1600000 in
theorem count152 (w0 : World) (br : Nat) (hbr : br < w0.heap.size) : ∀ (N : Nat) (cs : List Lv) (v : Value), Lv.szs cs < N → RVn w0 (Ai w0.heap.size br) v cs → ∀ (d : Nat) (w1 : World), d ≤ 65536 → Ktw br br w0 w1 → Room w1 br →
    Calls Try.prog 137 #[.pointer (some ⟨br, 0, none⟩), v, .int .i64 40, .int .i64 (d : Int), .func (.func 129) #[] #[]] w1 fun e w' => ∃ u, e = .returned u ∧ ((∃ b, u = .bool b ∧ (b = true → cs.length * 40 ≤ 2147483647)) ∧ Room w' br) ∧ Ktw br br w1 w' := by
  intro N
  induction N with
  | zero => intro cs v h; omega
  | succ N ih =>
  intro cs v hN hV d w1 hd1 hK hR
  obtain ⟨av, cv, rfl, _⟩ := hV.form
  have hQ := Ktw.refl br br w1
  have sK := hK.size
  have sQ := hQ.size
  obtain ⟨r, mr, hr0, hr1⟩ := hR
  refine calls_fs 57 [(0, .pointer (some ⟨br, 0, none⟩)), (1, .slice av cs.length cv), (2, .int .i64 40), (3, .int .i64 (d : Int)), (4, .func (.func 129) #[] #[])] Try.func137 rfl rfl rfl rfl rfl fun a hF => ?_
  refine wp_rs fun K1 hK1 => ?_
  refine s_val hF (x_assign rfl) (by decide) fun a hF => ?_
  refine s_end (hK1 _ _ ?_)
  refine wp_seq_k fun K2 hK2 => ?_
  rcases (show cs.length = 0 ∨ 0 < cs.length by omega) with hk9 | hk9
  · skip
    refine wp_rs fun K4 hK4 => ?_
    refine s_val hF (x_move rfl) (by decide) fun a hF => ?_
    refine s_val hF (x_len Try.underlying22 rfl) (by decide) fun a hF => ?_
    refine s_val hF (x_eql (b := true) (decide_eq_true (by omega)) rfl rfl) (by decide) fun a hF => ?_
    refine s_end (hK4 _ _ ?_)
    refine wp_if hF rfl ?_
    refine wp_rs fun K5 hK5 => ?_
    refine s_val hF (x_assign rfl) (by decide) fun a hF => ?_
    refine s_end (hK5 _ _ ?_)
    refine wp_ret (then_ret (res_slot hF rfl rfl ⟨_, rfl, ⟨⟨true, rfl, fun _ => by omega⟩, ⟨r, mr, hr0, hr1⟩⟩, hQ⟩))
  · skip
    refine wp_rs fun K6 hK6 => ?_
    refine s_val hF (x_move rfl) (by decide) fun a hF => ?_
    refine s_val hF (x_len Try.underlying22 rfl) (by decide) fun a hF => ?_
    refine s_val hF (x_eql (b := false) (decide_eq_false (by omega)) rfl rfl) (by decide) fun a hF => ?_
    refine s_end (hK6 _ _ ?_)
    refine wp_if hF rfl ?_
    refine wp_skip (hK2 _ _ ?_)
    refine wp_seq_k fun K7 hK7 => ?_
    rcases (show d = 0 ∨ (d ≠ 0 ∧ r / 40 < (cs.length : Int)) ∨ (d ≠ 0 ∧ (cs.length : Int) ≤ r / 40) by omega) with hk8 | hk8 | hk8
    · skip
      refine wp_rs fun K9 hK9 => ?_
      refine s_val hF (x_move rfl) (by decide) fun a hF => ?_
      refine s_val hF (x_eql (b := true) (decide_eq_true (by omega)) rfl rfl) (by decide) fun a hF => ?_
      refine s_val hF (x_move rfl) (by decide) fun a hF => ?_
      refine s_grdn 18 hF rfl rfl (by decide) fun a hF => ?_
      refine s_grdn 18 hF rfl rfl (by decide) fun a hF => ?_
      refine s_grdn 18 hF rfl rfl (by decide) fun a hF => ?_
      refine s_grdn 18 hF rfl rfl (by decide) fun a hF => ?_
      refine s_grdn 18 hF rfl rfl (by decide) fun a hF => ?_
      refine s_grdn 18 hF rfl rfl (by decide) fun a hF => ?_
      refine s_grdn 18 hF rfl rfl (by decide) fun a hF => ?_
      refine s_grdn 18 hF rfl rfl (by decide) fun a hF => ?_
      refine s_grdn 18 hF rfl rfl (by decide) fun a hF => ?_
      refine s_val hF (x_pick (b := true) rfl rfl) (by decide) fun a hF => ?_
      refine s_end (hK9 _ _ ?_)
      refine wp_if hF rfl ?_
      refine wp_rs fun K10 hK10 => ?_
      refine s_val hF (x_assign rfl) (by decide) fun a hF => ?_
      refine s_end (hK10 _ _ ?_)
      refine wp_ret (then_ret (res_slot hF rfl rfl ⟨_, rfl, ⟨⟨false, rfl, fun h => by cases h⟩, ⟨r, mr, hr0, hr1⟩⟩, hQ⟩))
    · skip
      refine wp_rs fun K11 hK11 => ?_
      refine s_val hF (x_move rfl) (by decide) fun a hF => ?_
      refine s_val hF (x_eql (b := false) (decide_eq_false (by omega)) rfl rfl) (by decide) fun a hF => ?_
      refine s_val hF (x_move rfl) (by decide) fun a hF => ?_
      refine s_grd 18 hF rfl rfl rfl ?_
      refine s_val hF (x_move rfl) (by decide) fun a hF => ?_
      refine s_grd 18 hF rfl rfl rfl ?_
      refine s_val hF (x_len Try.underlying22 rfl) (by decide) fun a hF => ?_
      refine s_grd 18 hF rfl rfl rfl ?_
      refine s_val hF (x_move rfl) (by decide) fun a hF => ?_
      refine s_grd 18 hF rfl rfl rfl ?_
      refine s_val hF (x_nil rfl) (by decide) fun a hF => ?_
      refine s_grd 18 hF rfl rfl rfl ?_
      refine s_val hF (x_fa0 fa110_0 rfl) (by decide) fun a hF => ?_
      refine s_grd 18 hF rfl rfl rfl ?_
      refine s_val hF (x_load rfl (m_load flat3 (mr.cell (j := 0) rfl))) (by decide) fun a hF => ?_
      refine s_grd 18 hF rfl rfl rfl ?_
      refine s_val hF (x_move rfl) (by decide) fun a hF => ?_
      refine s_grd 18 hF rfl rfl rfl ?_
      refine s_val hF (x_quon (r / 40) (by decide) hr0 (by omega) rfl rfl rfl) (by decide) fun a hF => ?_
      refine s_grd 18 hF rfl rfl rfl ?_
      refine s_val hF (x_gtr (b := true) (decide_eq_true (by omega)) rfl rfl) (by decide) fun a hF => ?_
      refine s_val hF (x_pick (b := false) rfl rfl) (by decide) fun a hF => ?_
      refine s_end (hK11 _ _ ?_)
      refine wp_if hF rfl ?_
      refine wp_rs fun K12 hK12 => ?_
      refine s_val hF (x_assign rfl) (by decide) fun a hF => ?_
      refine s_end (hK12 _ _ ?_)
      refine wp_ret (then_ret (res_slot hF rfl rfl ⟨_, rfl, ⟨⟨false, rfl, fun h => by cases h⟩, ⟨r, mr, hr0, hr1⟩⟩, hQ⟩))
    · skip
      refine wp_rs fun K13 hK13 => ?_
      refine s_val hF (x_move rfl) (by decide) fun a hF => ?_
      refine s_val hF (x_eql (b := false) (decide_eq_false (by omega)) rfl rfl) (by decide) fun a hF => ?_
      refine s_val hF (x_move rfl) (by decide) fun a hF => ?_
      refine s_grd 18 hF rfl rfl rfl ?_
      refine s_val hF (x_move rfl) (by decide) fun a hF => ?_
      refine s_grd 18 hF rfl rfl rfl ?_
      refine s_val hF (x_len Try.underlying22 rfl) (by decide) fun a hF => ?_
      refine s_grd 18 hF rfl rfl rfl ?_
      refine s_val hF (x_move rfl) (by decide) fun a hF => ?_
      refine s_grd 18 hF rfl rfl rfl ?_
      refine s_val hF (x_nil rfl) (by decide) fun a hF => ?_
      refine s_grd 18 hF rfl rfl rfl ?_
      refine s_val hF (x_fa0 fa110_0 rfl) (by decide) fun a hF => ?_
      refine s_grd 18 hF rfl rfl rfl ?_
      refine s_val hF (x_load rfl (m_load flat3 (mr.cell (j := 0) rfl))) (by decide) fun a hF => ?_
      refine s_grd 18 hF rfl rfl rfl ?_
      refine s_val hF (x_move rfl) (by decide) fun a hF => ?_
      refine s_grd 18 hF rfl rfl rfl ?_
      refine s_val hF (x_quon (r / 40) (by decide) hr0 (by omega) rfl rfl rfl) (by decide) fun a hF => ?_
      refine s_grd 18 hF rfl rfl rfl ?_
      refine s_val hF (x_gtr (b := false) (decide_eq_false (by omega)) rfl rfl) (by decide) fun a hF => ?_
      refine s_val hF (x_pick (b := false) rfl rfl) (by decide) fun a hF => ?_
      refine s_end (hK13 _ _ ?_)
      refine wp_if hF rfl ?_
      refine wp_skip (hK7 _ _ ?_)
      refine wp_rs fun K14 hK14 => ?_
      refine s_val hF (x_move rfl) (by decide) fun a hF => ?_
      refine s_val hF (x_nil rfl) (by decide) fun a hF => ?_
      refine s_val hF (x_fa0 fa110_0 rfl) (by decide) fun a hF => ?_
      refine s_val hF (x_load rfl (m_load flat3 (mr.cell (j := 0) rfl))) (by decide) fun a hF => ?_
      refine s_val hF (x_move rfl) (by decide) fun a hF => ?_
      refine s_val hF (x_len Try.underlying22 rfl) (by decide) fun a hF => ?_
      refine s_val hF (x_move rfl) (by decide) fun a hF => ?_
      refine s_val hF (x_mul (by omega) (by omega) rfl rfl) (by decide) fun a hF => ?_
      refine s_val hF (x_sub (by omega) (by omega) rfl rfl) (by decide) fun a hF => ?_
      refine s_val hF (x_nil rfl) (by decide) fun a hF => ?_
      refine s_val hF (x_fa0 fa110_0 rfl) (by decide) fun a hF => ?_
      refine s_put hF rfl rfl flat3 mr (by first | (simp; done) | decide) rfl fun w2 mr o3 => ?_
      have so3 := o3.size
      have hK := hK.only o3 (by omega)
      have hQ := hQ.only o3 (by omega)
      refine s_end (hK14 _ _ ?_)
      refine wp_seq_k fun K15 hK15 => ?_
      refine wp_rs fun K16 hK16 => ?_
      refine s_val hF (x_move rfl) (by decide) fun a hF => ?_
      refine s_val hF (x_len Try.underlying22 rfl) (by decide) fun a hF => ?_
      refine s_val hF (x_move rfl) (by decide) fun a hF => ?_
      refine s_end (hK16 _ _ ?_)
      refine wp_block ?_
      refine wp_up cs.length (fun i a w => (∃ r : Int, Blk w br 108 [.int .i64 r] ∧ 0 ≤ r ∧ r ≤ 2147483647) ∧ Ktw br br w0 w ∧ Ktw br br w1 w ∧ Fs 57 a [(0, .pointer (some ⟨br, 0, none⟩)), (2, .int .i64 40), (3, .int .i64 (d : Int)), (4, .func (.func 129) #[] #[]), (40, .slice av cs.length cv), (41, .int .i64 (cs.length : Int)), (42, .int .i64 (i : Int))]) ⟨⟨_, mr, by omega, by omega⟩, hK, hQ, hF.sub _ rfl⟩ ?_
      clear hF hK hQ mr
      rintro i a w hi ⟨⟨r2, mr, hr2, hr3⟩, hK, hQ, hF⟩ K' hK'
      have sK := hK.size
      have sQ := hQ.size
      refine wp_rs fun K17 hK17 => ?_
      refine s_val hF (x_lss (b := decide (i < cs.length)) (decide_eq_decide.2 (by omega)) rfl rfl) (by decide) fun a hF => ?_
      refine s_end (hK17 _ _ ?_)
      refine wp_seq_k fun K18 hK18 => ?_
      refine wp_iff hF rfl (fun hc43 => ?_) (fun hc43 => ?_)
      · obtain ⟨b9, off9, c9, y, kd, hve, hyk, hry, hAb, hbl, hrow⟩ := hV.row (i := i) (by omega)
        cases hve
        have hps := szs_get hyk
        have hks := kd.kids_sz
        have hkl := szs_len kd.kids
        refine wp_skip (hK18 _ _ ?_)
        refine wp_seq_k fun K19 hK19 => ?_
        refine wp_block ?_
        refine wp_rs fun K20 hK20 => ?_
        refine s_val hF (x_ixa rfl rfl (m_ixsK i Try.underlying22 el22.size rfl (by omega))) (by decide) fun a hF => ?_
        refine s_val hF (x_ldA wide24 (hrow _ (hK.block _ hbl ⟨hAb.1, hAb.1⟩)) rfl rfl) (by decide) fun a hF => ?_
        refine s_alloc hF (by decide) zero24 fun w4 b12 a eb12 m12 B5 zb12 hF => ?_
        have sB5 := B5.size
        have hK := hK.below B5
        have hQ := hQ.below B5
        have mr := mr.old B5
        refine s_putW hF rfl rfl (size_wide wide24) m12 rfl (one_lc hry.rl.one1) fun w8 m12 o9 => ?_
        have so9 := o9.size
        have hK := hK.only o9 (by omega)
        have hQ := hQ.only o9 (by omega)
        have mr := mr.only o9 (by omega)
        refine s_end (hK20 _ _ ?_)
        refine wp_rs fun K21 hK21 => ?_
        refine s_val hF (x_move rfl) (by decide) fun a hF => ?_
        refine s_val hF (x_move rfl) (by decide) fun a hF => ?_
        refine s_val hF (x_ldW wide24 m12 rfl rfl) (by decide) fun a hF => ?_
        refine s_callC (R := fun v w' => v = y.2.2 ∧ Below w8.heap.size w8 w') (lb := []) hF [_] rfl (enters_of Try.func129 (by kernel_rfl) rfl) rfl (by decide) ((kidsL144 y w8 hry.rl.one1).mono fun e w' h => ⟨_, h.1, rfl, h.2⟩) ?_
        rintro _ w10 a ⟨rfl, B11⟩ hF
        have sB11 := B11.size
        have hK := hK.below B11
        have hQ := hQ.below B11
        have mr := mr.old B11
        have m12 := m12.old B11
        have hkv := hry.kids
        refine s_val hF (x_move rfl) (by decide) fun a hF => ?_
        refine s_val hF (x_move rfl) (by decide) fun a hF => ?_
        refine s_val hF (x_subn (d - 1) (by omega) (by omega) rfl rfl) (by decide) fun a hF => ?_
        refine s_val hF (x_move rfl) (by decide) fun a hF => ?_
        refine s_call (R := fun u w' => ((∃ b, u = .bool b ∧ (b = true → kd.kids.length * 40 ≤ 2147483647)) ∧ Room w' br) ∧ Ktw br br w10 w') hF [_, _, _, _, _] (enters_of Try.func137 (by kernel_rfl) rfl) rfl (by decide) (ih kd.kids _ (by omega) hkv (d - 1) w10 (by omega) hK ⟨_, mr, hr2, hr3⟩) ?_
        rintro _ w12 a ⟨⟨⟨b54, rfl, h54⟩, ⟨r4, mr, hr4, hr5⟩⟩, k13⟩ hF
        have sk13 := k13.size
        have hK := hK.trans k13 (by omega)
        have hQ := hQ.trans k13 (by omega)
        have m12 := m12.k2 k13 (by omega)
        refine s_val hF (x_not rfl) (by decide) fun a hF => ?_
        refine s_end (hK21 _ _ ?_)
        refine wp_ifb hF rfl (fun hc55 => ?_) (fun hc55 => ?_)
        · refine wp_rs fun K22 hK22 => ?_
          refine s_val hF (x_assign rfl) (by decide) fun a hF => ?_
          refine s_end (hK22 _ _ ?_)
          refine wp_ret (inb_ret (then_ret (then_ret (inb_ret (then_ret (res_slot hF rfl rfl ⟨_, rfl, ⟨⟨false, rfl, fun h => by cases h⟩, ⟨r4, mr, hr4, hr5⟩⟩, hQ⟩))))))
        · obtain rfl : b54 = true := by simpa using hc55
          have h55 := h54 rfl
          refine wp_skip (hK19 _ _ ?_)
          refine wp_region_lit ?_
          refine s_val hF (x_addn (i + 1) (by omega) (by omega) rfl rfl) (by decide) fun a hF => ?_
          refine s_val hF (x_move rfl) (by decide) fun a hF => ?_
          refine s_end (hK' _ _ (by omega) ⟨⟨r4, mr, hr4, hr5⟩, hK, hQ, hF.sub _ rfl⟩)
      · obtain rfl : i = cs.length := by omega
        refine wp_exit (hK15 _ _ ?_)
        refine wp_rs fun K23 hK23 => ?_
        refine s_val hF (x_assign rfl) (by decide) fun a hF => ?_
        refine s_end (hK23 _ _ ?_)
        refine wp_ret (res_slot hF rfl rfl ⟨_, rfl, ⟨⟨true, rfl, fun _ => by omega⟩, ⟨r2, mr, hr2, hr3⟩⟩, hQ⟩)

set_option maxRecDepth 100000 in
set_option maxHeartbeats 1600000 in
theorem takes143 (w0 : World) (br : Nat) (hbr : br < w0.heap.size) (cs : List Lv) (v : Value) (hV : RVn w0 (Ai w0.heap.size br) v cs) (w1 : World) (hK : Ktw br br w0 w1) (hR : Room w1 br) :
    Calls Try.prog 128 #[.pointer (some ⟨br, 0, none⟩), v, .int .i64 40, .func (.func 129) #[] #[]] w1 fun e w' => ∃ u, e = .returned u ∧ ((∃ b, u = .bool b ∧ (b = true → cs.length * 40 ≤ 2147483647)) ∧ Room w' br) ∧ Ktw br br w1 w' := by
  have hQ := Ktw.refl br br w1
  have sK := hK.size
  have sQ := hQ.size
  refine calls_fs 18 [(0, .pointer (some ⟨br, 0, none⟩)), (1, v), (2, .int .i64 40), (3, .func (.func 129) #[] #[])] Try.func128 rfl rfl rfl rfl rfl fun a hF => ?_
  refine wp_rs fun K1 hK1 => ?_
  refine s_val hF (x_assign rfl) (by decide) fun a hF => ?_
  refine s_end (hK1 _ _ ?_)
  refine wp_seq_k fun K2 hK2 => ?_
  refine wp_rs fun K3 hK3 => ?_
  refine s_val hF (x_move rfl) (by decide) fun a hF => ?_
  refine s_val hF (x_move rfl) (by decide) fun a hF => ?_
  refine s_val hF (x_move rfl) (by decide) fun a hF => ?_
  refine s_val hF (x_move rfl) (by decide) fun a hF => ?_
  refine s_call (R := fun u w' => ((∃ b, u = .bool b ∧ (b = true → cs.length * 40 ≤ 2147483647)) ∧ Room w' br) ∧ Ktw br br w1 w') hF [_, _, _, _, _] (enters_of Try.func137 (by kernel_rfl) rfl) rfl (by decide) (count152 w0 br hbr (Lv.szs cs + 1) cs v (by omega) hV 65536 w1 (by omega) hK hR) ?_
  rintro _ w2 a ⟨⟨⟨b13, rfl, h13⟩, ⟨r4, mr, hr4, hr5⟩⟩, k3⟩ hF
  have sk3 := k3.size
  have hK := hK.trans k3 (by omega)
  have hQ := hQ.trans k3 (by omega)
  refine s_val hF (x_not rfl) (by decide) fun a hF => ?_
  refine s_end (hK3 _ _ ?_)
  refine wp_ifb hF rfl (fun hc14 => ?_) (fun hc14 => ?_)
  · refine wp_rs fun K4 hK4 => ?_
    refine s_val hF (x_move rfl) (by decide) fun a hF => ?_
    refine s_val hF (x_nil rfl) (by decide) fun a hF => ?_
    refine s_val hF (x_fa0 fa110_0 rfl) (by decide) fun a hF => ?_
    refine s_put hF rfl rfl flat3 mr (by first | (simp; done) | decide) rfl fun w4 mr o5 => ?_
    have so5 := o5.size
    have hK := hK.only o5 (by omega)
    have hQ := hQ.only o5 (by omega)
    refine s_end (hK4 _ _ ?_)
    refine wp_rs fun K5 hK5 => ?_
    refine s_val hF (x_assign rfl) (by decide) fun a hF => ?_
    refine s_end (hK5 _ _ ?_)
    refine wp_ret (then_ret (res_slot hF rfl rfl ⟨_, rfl, ⟨⟨false, rfl, fun h => by cases h⟩, ⟨0, mr, by decide, by decide⟩⟩, hQ⟩))
  · obtain rfl : b13 = true := by simpa using hc14
    have h14 := h13 rfl
    refine wp_skip (hK2 _ _ ?_)
    refine wp_rs fun K6 hK6 => ?_
    refine s_val hF (x_assign rfl) (by decide) fun a hF => ?_
    refine s_end (hK6 _ _ ?_)
    refine wp_ret (res_slot hF rfl rfl ⟨_, rfl, ⟨⟨true, rfl, fun _ => h14⟩, ⟨r4, mr, hr4, hr5⟩⟩, hQ⟩)

set_option maxRecDepth 100000 in
set_option maxHeartbeats 1600000 in
theorem count134 (w0 : World) (br : Nat) (hbr : br < w0.heap.size) : ∀ (N : Nat) (cs : List CT) (v : Value), sumT cs < N → RK w0 (Ai w0.heap.size br) v cs → ∀ (d : Nat) (w1 : World), d ≤ 65536 → Ktw br br w0 w1 → Room w1 br →
    Calls Try.prog 121 #[.pointer (some ⟨br, 0, none⟩), v, .int .i64 120, .int .i64 (d : Int), .func (.func 89) #[] #[]] w1 fun e w' => ∃ u, e = .returned u ∧ ((∃ b, u = .bool b ∧ (b = true → cs.length * 120 ≤ 2147483647 ∧ ∀ c ∈ cs, c.dep ≤ d)) ∧ Room w' br) ∧ Ktw br br w1 w' := by
  intro N
  induction N with
  | zero => intro cs v h; omega
  | succ N ih =>
  intro cs v hN hV d w1 hd1 hK hR
  obtain ⟨av, cv, rfl, _⟩ := hV.form
  have hQ := Ktw.refl br br w1
  have sK := hK.size
  have sQ := hQ.size
  obtain ⟨r, mr, hr0, hr1⟩ := hR
  refine calls_fs 57 [(0, .pointer (some ⟨br, 0, none⟩)), (1, .slice av cs.length cv), (2, .int .i64 120), (3, .int .i64 (d : Int)), (4, .func (.func 89) #[] #[])] Try.func121 rfl rfl rfl rfl rfl fun a hF => ?_
  refine wp_rs fun K1 hK1 => ?_
  refine s_val hF (x_assign rfl) (by decide) fun a hF => ?_
  refine s_end (hK1 _ _ ?_)
  refine wp_seq_k fun K2 hK2 => ?_
  rcases (show cs.length = 0 ∨ 0 < cs.length by omega) with hk9 | hk9
  · skip
    refine wp_rs fun K4 hK4 => ?_
    refine s_val hF (x_move rfl) (by decide) fun a hF => ?_
    refine s_val hF (x_len Try.underlying25 rfl) (by decide) fun a hF => ?_
    refine s_val hF (x_eql (b := true) (decide_eq_true (by omega)) rfl rfl) (by decide) fun a hF => ?_
    refine s_end (hK4 _ _ ?_)
    refine wp_if hF rfl ?_
    refine wp_rs fun K5 hK5 => ?_
    refine s_val hF (x_assign rfl) (by decide) fun a hF => ?_
    refine s_end (hK5 _ _ ?_)
    refine wp_ret (then_ret (res_slot hF rfl rfl ⟨_, rfl, ⟨⟨true, rfl, fun _ => ⟨by omega, fun c hc => by rw [List.eq_nil_of_length_eq_zero (show cs.length = 0 by omega)] at hc; cases hc⟩⟩, ⟨r, mr, hr0, hr1⟩⟩, hQ⟩))
  · skip
    refine wp_rs fun K6 hK6 => ?_
    refine s_val hF (x_move rfl) (by decide) fun a hF => ?_
    refine s_val hF (x_len Try.underlying25 rfl) (by decide) fun a hF => ?_
    refine s_val hF (x_eql (b := false) (decide_eq_false (by omega)) rfl rfl) (by decide) fun a hF => ?_
    refine s_end (hK6 _ _ ?_)
    refine wp_if hF rfl ?_
    refine wp_skip (hK2 _ _ ?_)
    refine wp_seq_k fun K7 hK7 => ?_
    rcases (show d = 0 ∨ (d ≠ 0 ∧ r / 120 < (cs.length : Int)) ∨ (d ≠ 0 ∧ (cs.length : Int) ≤ r / 120) by omega) with hk8 | hk8 | hk8
    · skip
      refine wp_rs fun K9 hK9 => ?_
      refine s_val hF (x_move rfl) (by decide) fun a hF => ?_
      refine s_val hF (x_eql (b := true) (decide_eq_true (by omega)) rfl rfl) (by decide) fun a hF => ?_
      refine s_val hF (x_move rfl) (by decide) fun a hF => ?_
      refine s_grdn 18 hF rfl rfl (by decide) fun a hF => ?_
      refine s_grdn 18 hF rfl rfl (by decide) fun a hF => ?_
      refine s_grdn 18 hF rfl rfl (by decide) fun a hF => ?_
      refine s_grdn 18 hF rfl rfl (by decide) fun a hF => ?_
      refine s_grdn 18 hF rfl rfl (by decide) fun a hF => ?_
      refine s_grdn 18 hF rfl rfl (by decide) fun a hF => ?_
      refine s_grdn 18 hF rfl rfl (by decide) fun a hF => ?_
      refine s_grdn 18 hF rfl rfl (by decide) fun a hF => ?_
      refine s_grdn 18 hF rfl rfl (by decide) fun a hF => ?_
      refine s_val hF (x_pick (b := true) rfl rfl) (by decide) fun a hF => ?_
      refine s_end (hK9 _ _ ?_)
      refine wp_if hF rfl ?_
      refine wp_rs fun K10 hK10 => ?_
      refine s_val hF (x_assign rfl) (by decide) fun a hF => ?_
      refine s_end (hK10 _ _ ?_)
      refine wp_ret (then_ret (res_slot hF rfl rfl ⟨_, rfl, ⟨⟨false, rfl, fun h => by cases h⟩, ⟨r, mr, hr0, hr1⟩⟩, hQ⟩))
    · skip
      refine wp_rs fun K11 hK11 => ?_
      refine s_val hF (x_move rfl) (by decide) fun a hF => ?_
      refine s_val hF (x_eql (b := false) (decide_eq_false (by omega)) rfl rfl) (by decide) fun a hF => ?_
      refine s_val hF (x_move rfl) (by decide) fun a hF => ?_
      refine s_grd 18 hF rfl rfl rfl ?_
      refine s_val hF (x_move rfl) (by decide) fun a hF => ?_
      refine s_grd 18 hF rfl rfl rfl ?_
      refine s_val hF (x_len Try.underlying25 rfl) (by decide) fun a hF => ?_
      refine s_grd 18 hF rfl rfl rfl ?_
      refine s_val hF (x_move rfl) (by decide) fun a hF => ?_
      refine s_grd 18 hF rfl rfl rfl ?_
      refine s_val hF (x_nil rfl) (by decide) fun a hF => ?_
      refine s_grd 18 hF rfl rfl rfl ?_
      refine s_val hF (x_fa0 fa110_0 rfl) (by decide) fun a hF => ?_
      refine s_grd 18 hF rfl rfl rfl ?_
      refine s_val hF (x_load rfl (m_load flat3 (mr.cell (j := 0) rfl))) (by decide) fun a hF => ?_
      refine s_grd 18 hF rfl rfl rfl ?_
      refine s_val hF (x_move rfl) (by decide) fun a hF => ?_
      refine s_grd 18 hF rfl rfl rfl ?_
      refine s_val hF (x_quon (r / 120) (by decide) hr0 (by omega) rfl rfl rfl) (by decide) fun a hF => ?_
      refine s_grd 18 hF rfl rfl rfl ?_
      refine s_val hF (x_gtr (b := true) (decide_eq_true (by omega)) rfl rfl) (by decide) fun a hF => ?_
      refine s_val hF (x_pick (b := false) rfl rfl) (by decide) fun a hF => ?_
      refine s_end (hK11 _ _ ?_)
      refine wp_if hF rfl ?_
      refine wp_rs fun K12 hK12 => ?_
      refine s_val hF (x_assign rfl) (by decide) fun a hF => ?_
      refine s_end (hK12 _ _ ?_)
      refine wp_ret (then_ret (res_slot hF rfl rfl ⟨_, rfl, ⟨⟨false, rfl, fun h => by cases h⟩, ⟨r, mr, hr0, hr1⟩⟩, hQ⟩))
    · skip
      refine wp_rs fun K13 hK13 => ?_
      refine s_val hF (x_move rfl) (by decide) fun a hF => ?_
      refine s_val hF (x_eql (b := false) (decide_eq_false (by omega)) rfl rfl) (by decide) fun a hF => ?_
      refine s_val hF (x_move rfl) (by decide) fun a hF => ?_
      refine s_grd 18 hF rfl rfl rfl ?_
      refine s_val hF (x_move rfl) (by decide) fun a hF => ?_
      refine s_grd 18 hF rfl rfl rfl ?_
      refine s_val hF (x_len Try.underlying25 rfl) (by decide) fun a hF => ?_
      refine s_grd 18 hF rfl rfl rfl ?_
      refine s_val hF (x_move rfl) (by decide) fun a hF => ?_
      refine s_grd 18 hF rfl rfl rfl ?_
      refine s_val hF (x_nil rfl) (by decide) fun a hF => ?_
      refine s_grd 18 hF rfl rfl rfl ?_
      refine s_val hF (x_fa0 fa110_0 rfl) (by decide) fun a hF => ?_
      refine s_grd 18 hF rfl rfl rfl ?_
      refine s_val hF (x_load rfl (m_load flat3 (mr.cell (j := 0) rfl))) (by decide) fun a hF => ?_
      refine s_grd 18 hF rfl rfl rfl ?_
      refine s_val hF (x_move rfl) (by decide) fun a hF => ?_
      refine s_grd 18 hF rfl rfl rfl ?_
      refine s_val hF (x_quon (r / 120) (by decide) hr0 (by omega) rfl rfl rfl) (by decide) fun a hF => ?_
      refine s_grd 18 hF rfl rfl rfl ?_
      refine s_val hF (x_gtr (b := false) (decide_eq_false (by omega)) rfl rfl) (by decide) fun a hF => ?_
      refine s_val hF (x_pick (b := false) rfl rfl) (by decide) fun a hF => ?_
      refine s_end (hK13 _ _ ?_)
      refine wp_if hF rfl ?_
      refine wp_skip (hK7 _ _ ?_)
      refine wp_rs fun K14 hK14 => ?_
      refine s_val hF (x_move rfl) (by decide) fun a hF => ?_
      refine s_val hF (x_nil rfl) (by decide) fun a hF => ?_
      refine s_val hF (x_fa0 fa110_0 rfl) (by decide) fun a hF => ?_
      refine s_val hF (x_load rfl (m_load flat3 (mr.cell (j := 0) rfl))) (by decide) fun a hF => ?_
      refine s_val hF (x_move rfl) (by decide) fun a hF => ?_
      refine s_val hF (x_len Try.underlying25 rfl) (by decide) fun a hF => ?_
      refine s_val hF (x_move rfl) (by decide) fun a hF => ?_
      refine s_val hF (x_mul (by omega) (by omega) rfl rfl) (by decide) fun a hF => ?_
      refine s_val hF (x_sub (by omega) (by omega) rfl rfl) (by decide) fun a hF => ?_
      refine s_val hF (x_nil rfl) (by decide) fun a hF => ?_
      refine s_val hF (x_fa0 fa110_0 rfl) (by decide) fun a hF => ?_
      refine s_put hF rfl rfl flat3 mr (by first | (simp; done) | decide) rfl fun w2 mr o3 => ?_
      have so3 := o3.size
      have hK := hK.only o3 (by omega)
      have hQ := hQ.only o3 (by omega)
      refine s_end (hK14 _ _ ?_)
      refine wp_seq_k fun K15 hK15 => ?_
      refine wp_rs fun K16 hK16 => ?_
      refine s_val hF (x_move rfl) (by decide) fun a hF => ?_
      refine s_val hF (x_len Try.underlying25 rfl) (by decide) fun a hF => ?_
      refine s_val hF (x_move rfl) (by decide) fun a hF => ?_
      refine s_end (hK16 _ _ ?_)
      refine wp_block ?_
      refine wp_up cs.length (fun i a w => (∃ r : Int, Blk w br 108 [.int .i64 r] ∧ 0 ≤ r ∧ r ≤ 2147483647) ∧ Ktw br br w0 w ∧ Ktw br br w1 w ∧ (∀ c ∈ cs.take i, c.dep ≤ d) ∧ Fs 57 a [(0, .pointer (some ⟨br, 0, none⟩)), (2, .int .i64 120), (3, .int .i64 (d : Int)), (4, .func (.func 89) #[] #[]), (40, .slice av cs.length cv), (41, .int .i64 (cs.length : Int)), (42, .int .i64 (i : Int))]) ⟨⟨_, mr, by omega, by omega⟩, hK, hQ, (fun c hc => by simp at hc), hF.sub _ rfl⟩ ?_
      clear hF hK hQ mr
      rintro i a w hi ⟨⟨r2, mr, hr2, hr3⟩, hK, hQ, hdp, hF⟩ K' hK'
      have sK := hK.size
      have sQ := hQ.size
      refine wp_rs fun K17 hK17 => ?_
      refine s_val hF (x_lss (b := decide (i < cs.length)) (decide_eq_decide.2 (by omega)) rfl rfl) (by decide) fun a hF => ?_
      refine s_end (hK17 _ _ ?_)
      refine wp_seq_k fun K18 hK18 => ?_
      refine wp_iff hF rfl (fun hc43 => ?_) (fun hc43 => ?_)
      · obtain ⟨b9, off9, c9, y, kd, hve, hyk, hry, hAb, hbl, hrow⟩ := hV.row (i := i) (by omega)
        cases hve
        have hps := sumT_get hyk
        have hks := kd.kids_sum
        have hk3 := kd.kids_le
        have htk := take_snoc hyk
        refine wp_skip (hK18 _ _ ?_)
        refine wp_seq_k fun K19 hK19 => ?_
        refine wp_block ?_
        refine wp_rs fun K20 hK20 => ?_
        refine s_val hF (x_ixa rfl rfl (m_ixsK i Try.underlying25 el25.size rfl (by omega))) (by decide) fun a hF => ?_
        refine s_val hF (x_ldA wide27 (hrow _ (hK.block _ hbl ⟨hAb.1, hAb.1⟩)) rfl rfl) (by decide) fun a hF => ?_
        refine s_alloc hF (by decide) zero27 fun w4 b12 a eb12 m12 B5 zb12 hF => ?_
        have sB5 := B5.size
        have hK := hK.below B5
        have hQ := hQ.below B5
        have mr := mr.old B5
        refine s_putW hF rfl rfl (size_wide wide27) m12 rfl hry.one fun w8 m12 o9 => ?_
        have so9 := o9.size
        have hK := hK.only o9 (by omega)
        have hQ := hQ.only o9 (by omega)
        have mr := mr.only o9 (by omega)
        refine s_end (hK20 _ _ ?_)
        refine wp_rs fun K21 hK21 => ?_
        refine s_val hF (x_move rfl) (by decide) fun a hF => ?_
        refine s_val hF (x_move rfl) (by decide) fun a hF => ?_
        refine s_val hF (x_ldW wide27 m12 rfl rfl) (by decide) fun a hF => ?_
        refine s_callC (R := fun v w' => RK w0 (Ai w0.heap.size br) v kd.kids ∧ Below w8.heap.size w8 w') (lb := []) hF [_] rfl (enters_of Try.func89 (by kernel_rfl) rfl) rfl (by decide) (kidsOf101 kd y (Ai w0.heap.size br) w0 w8 hry) ?_
        rintro v49 w10 a ⟨hkv, B11⟩ hF
        have sB11 := B11.size
        have hK := hK.below B11
        have hQ := hQ.below B11
        have mr := mr.old B11
        have m12 := m12.old B11
        refine s_val hF (x_move rfl) (by decide) fun a hF => ?_
        refine s_val hF (x_move rfl) (by decide) fun a hF => ?_
        refine s_val hF (x_subn (d - 1) (by omega) (by omega) rfl rfl) (by decide) fun a hF => ?_
        refine s_val hF (x_move rfl) (by decide) fun a hF => ?_
        refine s_call (R := fun u w' => ((∃ b, u = .bool b ∧ (b = true → kd.kids.length * 120 ≤ 2147483647 ∧ ∀ c ∈ kd.kids, c.dep ≤ d - 1)) ∧ Room w' br) ∧ Ktw br br w10 w') hF [_, _, _, _, _] (enters_of Try.func121 (by kernel_rfl) rfl) rfl (by decide) (ih kd.kids _ (by omega) hkv (d - 1) w10 (by omega) hK ⟨_, mr, hr2, hr3⟩) ?_
        rintro _ w12 a ⟨⟨⟨b54, rfl, h54⟩, ⟨r4, mr, hr4, hr5⟩⟩, k13⟩ hF
        have sk13 := k13.size
        have hK := hK.trans k13 (by omega)
        have hQ := hQ.trans k13 (by omega)
        have m12 := m12.k2 k13 (by omega)
        refine s_val hF (x_not rfl) (by decide) fun a hF => ?_
        refine s_end (hK21 _ _ ?_)
        refine wp_ifb hF rfl (fun hc55 => ?_) (fun hc55 => ?_)
        · refine wp_rs fun K22 hK22 => ?_
          refine s_val hF (x_assign rfl) (by decide) fun a hF => ?_
          refine s_end (hK22 _ _ ?_)
          refine wp_ret (inb_ret (then_ret (then_ret (inb_ret (then_ret (res_slot hF rfl rfl ⟨_, rfl, ⟨⟨false, rfl, fun h => by cases h⟩, ⟨r4, mr, hr4, hr5⟩⟩, hQ⟩))))))
        · obtain rfl : b54 = true := by simpa using hc55
          have h55 := h54 rfl
          have hkd : kd.dep ≤ d := by have := CT.dep_kids h55.2; omega
          refine wp_skip (hK19 _ _ ?_)
          refine wp_region_lit ?_
          refine s_val hF (x_addn (i + 1) (by omega) (by omega) rfl rfl) (by decide) fun a hF => ?_
          refine s_val hF (x_move rfl) (by decide) fun a hF => ?_
          refine s_end (hK' _ _ (by omega) ⟨⟨r4, mr, hr4, hr5⟩, hK, hQ, (fun c hc => by rw [htk] at hc; rcases List.mem_append.1 hc with hc | hc; (· exact hdp c hc); (· rw [List.mem_singleton.1 hc]; exact hkd)), hF.sub _ rfl⟩)
      · obtain rfl : i = cs.length := by omega
        rw [List.take_length] at hdp
        refine wp_exit (hK15 _ _ ?_)
        refine wp_rs fun K23 hK23 => ?_
        refine s_val hF (x_assign rfl) (by decide) fun a hF => ?_
        refine s_end (hK23 _ _ ?_)
        refine wp_ret (res_slot hF rfl rfl ⟨_, rfl, ⟨⟨true, rfl, fun _ => ⟨by omega, hdp⟩⟩, ⟨r2, mr, hr2, hr3⟩⟩, hQ⟩)

set_option maxRecDepth 100000 in
set_option maxHeartbeats 1600000 in
theorem takes100 (w0 : World) (br : Nat) (hbr : br < w0.heap.size) (cs : List CT) (v : Value) (hV : RK w0 (Ai w0.heap.size br) v cs) (w1 : World) (hK : Ktw br br w0 w1) (hR : Room w1 br) :
    Calls Try.prog 88 #[.pointer (some ⟨br, 0, none⟩), v, .int .i64 120, .func (.func 89) #[] #[]] w1 fun e w' => ∃ u, e = .returned u ∧ ((∃ b, u = .bool b ∧ (b = true → cs.length * 120 ≤ 2147483647 ∧ ∀ c ∈ cs, c.dep ≤ 65536)) ∧ Room w' br) ∧ Ktw br br w1 w' := by
  have hQ := Ktw.refl br br w1
  have sK := hK.size
  have sQ := hQ.size
  refine calls_fs 18 [(0, .pointer (some ⟨br, 0, none⟩)), (1, v), (2, .int .i64 120), (3, .func (.func 89) #[] #[])] Try.func88 rfl rfl rfl rfl rfl fun a hF => ?_
  refine wp_rs fun K1 hK1 => ?_
  refine s_val hF (x_assign rfl) (by decide) fun a hF => ?_
  refine s_end (hK1 _ _ ?_)
  refine wp_seq_k fun K2 hK2 => ?_
  refine wp_rs fun K3 hK3 => ?_
  refine s_val hF (x_move rfl) (by decide) fun a hF => ?_
  refine s_val hF (x_move rfl) (by decide) fun a hF => ?_
  refine s_val hF (x_move rfl) (by decide) fun a hF => ?_
  refine s_val hF (x_move rfl) (by decide) fun a hF => ?_
  refine s_call (R := fun u w' => ((∃ b, u = .bool b ∧ (b = true → cs.length * 120 ≤ 2147483647 ∧ ∀ c ∈ cs, c.dep ≤ 65536)) ∧ Room w' br) ∧ Ktw br br w1 w') hF [_, _, _, _, _] (enters_of Try.func121 (by kernel_rfl) rfl) rfl (by decide) (count134 w0 br hbr (sumT cs + 1) cs v (by omega) hV 65536 w1 (by omega) hK hR) ?_
  rintro _ w2 a ⟨⟨⟨b13, rfl, h13⟩, ⟨r4, mr, hr4, hr5⟩⟩, k3⟩ hF
  have sk3 := k3.size
  have hK := hK.trans k3 (by omega)
  have hQ := hQ.trans k3 (by omega)
  refine s_val hF (x_not rfl) (by decide) fun a hF => ?_
  refine s_end (hK3 _ _ ?_)
  refine wp_ifb hF rfl (fun hc14 => ?_) (fun hc14 => ?_)
  · refine wp_rs fun K4 hK4 => ?_
    refine s_val hF (x_move rfl) (by decide) fun a hF => ?_
    refine s_val hF (x_nil rfl) (by decide) fun a hF => ?_
    refine s_val hF (x_fa0 fa110_0 rfl) (by decide) fun a hF => ?_
    refine s_put hF rfl rfl flat3 mr (by first | (simp; done) | decide) rfl fun w4 mr o5 => ?_
    have so5 := o5.size
    have hK := hK.only o5 (by omega)
    have hQ := hQ.only o5 (by omega)
    refine s_end (hK4 _ _ ?_)
    refine wp_rs fun K5 hK5 => ?_
    refine s_val hF (x_assign rfl) (by decide) fun a hF => ?_
    refine s_end (hK5 _ _ ?_)
    refine wp_ret (then_ret (res_slot hF rfl rfl ⟨_, rfl, ⟨⟨false, rfl, fun h => by cases h⟩, ⟨0, mr, by decide, by decide⟩⟩, hQ⟩))
  · obtain rfl : b13 = true := by simpa using hc14
    have h14 := h13 rfl
    refine wp_skip (hK2 _ _ ?_)
    refine wp_rs fun K6 hK6 => ?_
    refine s_val hF (x_assign rfl) (by decide) fun a hF => ?_
    refine s_end (hK6 _ _ ?_)
    refine wp_ret (res_slot hF rfl rfl ⟨_, rfl, ⟨⟨true, rfl, fun _ => h14⟩, ⟨r4, mr, hr4, hr5⟩⟩, hQ⟩)
end Go.Proofs.Ytaclncmkdpjnlaa
