/- Folds whose joins tell numbers. -/
import Derived.Test.YtaclncmkdpjnlaaTerm4
namespace Go.Proofs.Ytaclncmkdpjnlaa
open Go.RowKit Go.Shelf
set_option linter.unusedVariables false
set_option linter.unusedSimpArgs false

def enc2 (p : Int × Int) : List Value := [.int .i64 p.1, .int .i64 p.2]
def enc1 (z : Int) : List Value := [.int .i64 z]
set_option maxRecDepth 100000 in
set_option maxHeartbeats 1600000 in
theorem fold119 (wl : World) (g : FuncId) (lb : List Value) (hg : Enters Try.prog g) (D : Int) (hD : D ≤ 4611686018427387904) (Sz : Nat) (G : CT → Int → List (Int × Int) → (Int × Int)) (gv : Value) (hgv : gv = .func (.func g) #[] lb.toArray)
    (HJ : ∀ (W : World) (c : CT) (x : C8) (d : Int) (kv : Value), Below wl.heap.size wl W → RC wl (fun k => k < wl.heap.size) c x → c.size ≤ Sz → 0 ≤ d → d + c.dep ≤ D → Rd W kv 2 c.kids.length ((c.folds G d).flatMap enc2) →
      Calls Try.prog g ([tv x, .int .i64 d, kv] ++ lb).toArray W fun e w' => e = .returned (.agg (enc2 (G c d (c.folds G d))).toArray) ∧ Below W.heap.size W w') :
    ∀ (N : Nat) (c : CT) (x : C8) (d : Int) (W : World), c.size < N → c.size ≤ Sz → RC wl (fun k => k < wl.heap.size) c x → 0 ≤ d → d + c.dep ≤ D → Below wl.heap.size wl W →
      Calls Try.prog 100 #[tv x, .int .i64 d, gv] W fun e w' => e = .returned (.agg (enc2 (c.fold G d)).toArray) ∧ Below W.heap.size W w' := by
  subst hgv
  intro N
  induction N with
  | zero => intro c x d W h; omega
  | succ N ih =>
  intro c x d W hN hSz hx hd0 hdD hK
  have h3 := c.kids_le
  have hdp := c.dep_pos
  have hB := Below.refl W.heap.size W
  have sB := hB.size
  have sK := hK.size
  refine calls_fs 43 [(0, tv x), (1, .int .i64 d), (2, .func (.func g) #[] lb.toArray)] Try.func100 rfl rfl rfl rfl rfl fun a hF => ?_
  refine wp_rs fun K1 hK1 => ?_
  refine s_box (tc x) hF (by decide) rfl rfl fun w2 b3 a eb3 m3 B3 zb3 hF => ?_
  have sB3 := B3.size
  have hK := hK.trans (B3.mono hK.size)
  have hB := hB.trans (B3.mono hB.size)
  refine s_alloc hF (by decide) zero93 fun w4 b6 a eb6 m6 B5 zb6 hF => ?_
  have sB5 := B5.size
  have hK := hK.trans (B5.mono hK.size)
  have hB := hB.trans (B5.mono hB.size)
  have m3 := m3.old B5
  refine s_end (hK1 _ _ ?_)
  refine wp_rs fun K2 hK2 => ?_
  refine s_val hF (x_assign rfl) (by decide) fun a hF => ?_
  refine s_end (hK2 _ _ ?_)
  refine wp_seq_k fun K3 hK3 => ?_
  refine wp_rs fun K4 hK4 => ?_
  refine s_val hF (x_ldW wide27 m3 rfl rfl) (by decide) fun a hF => ?_
  refine s_callR (R := fun v w' => RK wl (fun k => k < wl.heap.size) v c.kids) [_] hF (enters_of Try.func89 (by kernel_rfl) rfl) rfl (by decide) (kidsOf101 c x (fun k => k < wl.heap.size) wl w4 hx) ?_
  rintro v12 w6 a hv12 B7 hF
  have sB7 := B7.size
  have hK := hK.trans (B7.mono hK.size)
  have hB := hB.trans (B7.mono hB.size)
  have m3 := m3.old B7
  have m6 := m6.old B7
  obtain ⟨a12, c12, hve, _⟩ := hv12.form
  subst hve
  refine s_val hF (x_assign rfl) (by decide) fun a hF => ?_
  refine s_end (hK4 _ _ ?_)
  rcases (show 0 < c.kids.length ∨ c.kids.length = 0 by omega) with hk | hk
  · skip
    refine wp_rs fun K6 hK6 => ?_
    refine s_val hF (x_move rfl) (by decide) fun a hF => ?_
    refine s_val hF (x_len Try.underlying25 rfl) (by decide) fun a hF => ?_
    refine s_val hF (x_gtr (b := true) (decide_eq_true (by omega)) rfl rfl) (by decide) fun a hF => ?_
    refine s_end (hK6 _ _ ?_)
    refine wp_if hF rfl ?_
    refine wp_rs fun K7 hK7 => ?_
    refine s_val hF (x_move rfl) (by decide) fun a hF => ?_
    refine s_val hF (x_len Try.underlying25 rfl) (by decide) fun a hF => ?_
    refine s_mkG c.kids.length el122 hF (by decide) rfl rfl (by omega) (by omega) rfl rfl fun w18 bm a cs18 eb18 hl18 mm B18 z18 hF => ?_
    have sB18 := B18.size
    have hK := hK.trans (B18.mono hK.size)
    have hB := hB.trans (B18.mono hB.size)
    have m3 := m3.old B18
    have m6 := m6.old B18
    refine s_val hF (x_assign rfl) (by decide) fun a hF => ?_
    refine s_end (hK7 _ _ ?_)
    refine wp_rs fun K8 hK8 => ?_
    refine s_val hF (x_move rfl) (by decide) fun a hF => ?_
    refine s_val hF (x_len Try.underlying25 rfl) (by decide) fun a hF => ?_
    refine s_val hF (x_move rfl) (by decide) fun a hF => ?_
    refine s_end (hK8 _ _ ?_)
    refine wp_block ?_
    refine wp_up c.kids.length (fun i a w => ∃ cs, cs.length = c.kids.length * 2 ∧ Blk w bm 81 cs ∧ cs.take (i * 2) = ((c.folds G d).take i).flatMap enc2 ∧ Blk w b3 27 (tc x) ∧ Blk w b6 81 [.int .i64 0, .int .i64 0] ∧ Below wl.heap.size wl w ∧ Below W.heap.size W w ∧ Fs 43 a [(1, .int .i64 d), (2, .func (.func g) #[] lb.toArray), (3, .pointer (some ⟨b3, 0, none⟩)), (6, .pointer (some ⟨b6, 0, none⟩)), (7, .slice (some ⟨bm, 0, none⟩) c.kids.length c.kids.length), (19, .slice a12 c.kids.length c12), (20, .int .i64 (c.kids.length : Int)), (21, .int .i64 (i : Int))]) ⟨cs18, hl18, mm, by simp, m3, m6, hK, hB, hF.sub _ rfl⟩ ?_
    clear hF mm m3 m6 hK hB
    rintro i a w hi ⟨cs, hl, mm, hM, m3, m6, hK, hB, hF⟩ K' hK'
    have sK := hK.size
    have sB := hB.size
    have hbmw := mm.lt
    have hb3w := m3.lt
    have hb6w := m6.lt
    refine wp_rs fun K9 hK9 => ?_
    refine s_val hF (x_lss (b := decide (i < c.kids.length)) (decide_eq_decide.2 (by omega)) rfl rfl) (by decide) fun a hF => ?_
    refine s_end (hK9 _ _ ?_)
    refine wp_seq_k fun K10 hK10 => ?_
    refine wp_iff hF rfl (fun hc22 => ?_) (fun hc22 => ?_)
    · obtain ⟨b9, off9, c9, y, kd, hve, hyk, hry, hAb, hbl, hrow⟩ := hv12.row (i := i) (by omega)
      cases hve
      have hks := CT.kid_size hyk
      have hbd := c.bnd_is i
      have htk := take_snoc (CT.folds_get G (d := d) hyk)
      have hti : ((c.folds G d).take i).length = i := by rw [List.length_take, CT.folds_len]; omega
      refine wp_skip (hK10 _ _ ?_)
      refine wp_seq_k fun K11 hK11 => ?_
      refine wp_block ?_
      refine wp_rs fun K12 hK12 => ?_
      refine s_val hF (x_move rfl) (by decide) fun a hF => ?_
      refine s_val hF (x_ixa rfl rfl (m_ixsK i Try.underlying25 el25.size rfl (by omega))) (by decide) fun a hF => ?_
      refine s_val hF (x_ldA wide27 (hrow _ (hK.block _ hbl)) rfl rfl) (by decide) fun a hF => ?_
      refine s_alloc hF (by decide) zero27 fun w8 b10 a eb10 m10 B9 zb10 hF => ?_
      have sB9 := B9.size
      have hK := hK.trans (B9.mono hK.size)
      have hB := hB.trans (B9.mono hB.size)
      have mm := mm.old B9
      have m3 := m3.old B9
      have m6 := m6.old B9
      refine s_val hF (x_assign rfl) (by decide) fun a hF => ?_
      refine s_putW hF rfl rfl (size_wide wide27) m10 rfl hry.one fun w12 m10 o13 => ?_
      have so13 := o13.size
      have hK := hK.trans (o13.below (by omega))
      have hB := hB.trans (o13.below (by omega))
      have mm := mm.only o13 (by omega)
      have m3 := m3.only o13 (by omega)
      have m6 := m6.only o13 (by omega)
      refine s_end (hK12 _ _ ?_)
      refine dk2_one (bm) (bm) (ops := regOps Try.f100 8) (N := 12) (by kernel_rfl) wide_orders (by kernel_rfl) fun w14 hw14 B15 hS K13 hK13 => ?_
      have zw14 : w14.heap.size = w12.heap.size := by rw [hw14]
      have sB15 := B15.size
      have hK := hK.trans (B15.mono hK.size)
      have hB := hB.trans (B15.mono hB.size)
      have mm := mm.old B15
      have m3 := m3.old B15
      have m6 := m6.old B15
      have m10 := m10.old B15
      have mm_d := mm
      have m3_d := m3
      have m6_d := m6
      have m10_d := m10
      have hK_d := hK
      have hB_d := hB
      refine d_val 0 26 (op := (Go.Op.move (Go.Operand.tmp 7))) hF hS (by kernel_rfl) (fun W hW => x_move rfl) (by kernel_rfl) (by decide) fun a hF => ?_
      refine d_val 1 27 (op := (Go.Op.move (Go.Operand.tmp 9))) hF hS (by kernel_rfl) (fun W hW => x_move rfl) (by kernel_rfl) (by decide) fun a hF => ?_
      refine d_val 2 28 (op := (Go.Op.load 27 (Go.Operand.tmp 10))) hF hS (by kernel_rfl) (fun W hW => x_ldW wide27 (m10_d.k2 hW (by omega)) rfl rfl) (by kernel_rfl) (by decide) fun a hF => ?_
      refine d_val 3 29 (op := (Go.Op.move (Go.Operand.tmp 1))) hF hS (by kernel_rfl) (fun W hW => x_move rfl) (by kernel_rfl) (by decide) fun a hF => ?_
      refine d_val 4 30 (op := (Go.Op.load 27 (Go.Operand.tmp 3))) hF hS (by kernel_rfl) (fun W hW => x_ldW wide27 (m3_d.k2 hW (by omega)) rfl rfl) (by kernel_rfl) (by decide) fun a hF => ?_
      refine d_val 5 31 (op := (Go.Op.move (Go.Operand.tmp 9))) hF hS (by kernel_rfl) (fun W hW => x_move rfl) (by kernel_rfl) (by decide) fun a hF => ?_
      refine d_val 8 34 (op := (Go.Op.move (Go.Operand.tmp 2))) hF hS (by kernel_rfl) (fun W hW => x_move rfl) (by kernel_rfl) (by decide) fun a hF => ?_
      refine d_one 6 (some 32) (Go.Op.call (Go.Call.mk (Go.Callee.value (Go.Operand.func 107)) #[(Go.Operand.tmp 30), (Go.Operand.tmp 31)] #[27, 3])) (by kernel_rfl) (by kernel_rfl) fun ty pos af => ?_
      refine s_callB [_, _] hF (enters_of Try.func107 (by kernel_rfl) rfl) rfl (by decide) (binds112 c x (fun k => k < wl.heap.size) i wl w14 hx (by omega)) fun w16 a B17 hF => ?_
      have sB17 := B17.size
      have hK := hK.trans (B17.mono hK.size)
      have hB := hB.trans (B17.mono hB.size)
      have mm := mm.old B17
      have m3 := m3.old B17
      have m6 := m6.old B17
      have m10 := m10.old B17
      have hS := hS.below B17
      refine s_end ⟨hS, ?_⟩
      refine d_val 7 33 (op := (Go.Op.binOp Go.BinOp.add 3 (Go.Operand.tmp 29) (Go.Operand.tmp 32) 3)) hF hS (by kernel_rfl) (fun W hW => x_add (by omega) (by omega) rfl rfl) (by kernel_rfl) (by decide) fun a hF => ?_
      refine d_one 9 (some 35) (Go.Op.call (Go.Call.mk (Go.Callee.value (Go.Operand.func 100)) #[(Go.Operand.tmp 28), (Go.Operand.tmp 33), (Go.Operand.tmp 34)] #[27, 3, 120])) (by kernel_rfl) (by kernel_rfl) fun ty pos af => ?_
      refine s_callB [_, _, _] hF (enters_of Try.func100 (by kernel_rfl) rfl) rfl (by decide) (ih kd y (d + c.bnd i) w16 (by omega) (by omega) hry (by omega) (by omega) hK) fun w18 a B19 hF => ?_
      have sB19 := B19.size
      have hK := hK.trans (B19.mono hK.size)
      have hB := hB.trans (B19.mono hB.size)
      have mm := mm.old B19
      have m3 := m3.old B19
      have m6 := m6.old B19
      have m10 := m10.old B19
      have hS := hS.below B19
      refine s_end ⟨hS, ?_⟩
      refine d_val 10 36 (op := (Go.Op.indexAddr 118 (Go.Operand.tmp 26) (Go.Operand.tmp 27))) hF hS (by kernel_rfl) (fun W hW => x_ixa rfl rfl (m_ixsK i Try.underlying118 el122.size rfl (by omega))) (by kernel_rfl) (by decide) fun a hF => ?_
      refine d_one 11 none (Go.Op.store 81 (Go.Operand.tmp 36) (Go.Operand.tmp 35)) (by kernel_rfl) (by kernel_rfl) fun ty pos af => ?_
      refine s_putP (vs := enc2 _) hF rfl rfl (size_wide wide93) mm (by rw [hl]; simp only [enc2, List.length_cons, List.length_nil]; omega) (oneII _ _) fun w40 mm o40 => ?_
      have so40 := o40.size
      have hK := hK.trans (o40.below (by omega))
      have hB := hB.trans (o40.below (by omega))
      have m3 := m3.only o40 (by omega)
      have m6 := m6.only o40 (by omega)
      have m10 := m10.only o40 (by omega)
      have hS := hS.only o40 (by omega)
      refine s_end ⟨hS, ?_⟩
      refine d_end (by kernel_rfl) (hK13 _ _ ?_)
      refine hK11 _ _ ?_
      refine wp_region_lit ?_
      refine s_val hF (x_add (by omega) (by omega) rfl rfl) (by decide) fun a hF => ?_
      refine s_val hF (x_move rfl) (by decide) fun a hF => ?_
      refine s_end (hK' _ _ (by omega) ⟨_, by rw [put_len (by rw [hl]; simp only [enc2, List.length_cons, List.length_nil]; omega), hl], mm, by rw [htk, List.flatMap_append, ← hM, show (i + 1) * 2 = (0 + i * 2) + (enc2 (kd.fold G (d + c.bnd i))).length by simp only [enc2, List.length_cons, List.length_nil]; omega, take_put (by rw [hl]; omega), Nat.zero_add]; simp, m3, m6, hK, hB, hF.sub _ rfl⟩)
    · obtain rfl : i = c.kids.length := by omega
      rw [List.take_of_length_le (by rw [hl]; exact Nat.le_refl _), List.take_of_length_le (by rw [CT.folds_len]; exact Nat.le_refl _)] at hM
      have hkv : Rd w (.slice (some ⟨bm, 0, none⟩) c.kids.length c.kids.length) 2 c.kids.length ((c.folds G d).flatMap enc2) := by rw [← hM]; exact Rd.blk mm hl
      refine wp_exit (hK3 _ _ ?_)
      refine wp_rs fun K14 hK14 => ?_
      refine s_val hF (x_move rfl) (by decide) fun a hF => ?_
      refine s_val hF (x_ldW wide27 m3 rfl rfl) (by decide) fun a hF => ?_
      refine s_val hF (x_move rfl) (by decide) fun a hF => ?_
      refine s_val hF (x_move rfl) (by decide) fun a hF => ?_
      refine s_callC (R := fun v w' => v = .agg (enc2 (G c d (c.folds G d))).toArray ∧ Below w.heap.size w w') hF [_, _, _] rfl hg rfl (by decide) ((HJ _ c x d _ hK hx hSz (by omega) (by omega) hkv).mono fun e w' h => ⟨_, h.1, rfl, h.2⟩) ?_
      rintro _ w42 a ⟨rfl, B42⟩ hF
      have sB42 := B42.size
      have hK := hK.trans (B42.mono hK.size)
      have hB := hB.trans (B42.mono hB.size)
      have mm := mm.old B42
      have m3 := m3.old B42
      have m6 := m6.old B42
      refine s_putW hF rfl rfl (size_wide wide93) m6 rfl (oneII _ _) fun w22 m6 o23 => ?_
      have so23 := o23.size
      have hK := hK.trans (o23.below (by omega))
      have hB := hB.trans (o23.below (by omega))
      have mm := mm.only o23 (by omega)
      have m3 := m3.only o23 (by omega)
      refine s_end (hK14 _ _ ?_)
      refine wp_ret (res_cell (cs := enc2 _) hF rfl rfl m6 wide93 ⟨by rw [CT.fold_eq], hB⟩)
  · have hkv : Rd w6 nilS 2 c.kids.length ((c.folds G d).flatMap enc2) := by have e0 : c.folds G d = [] := List.eq_nil_of_length_eq_zero (by rw [CT.folds_len]; omega); rw [e0, hk]; exact Rd.nil w6 2
    refine wp_rs fun K15 hK15 => ?_
    refine s_val hF (x_move rfl) (by decide) fun a hF => ?_
    refine s_val hF (x_len Try.underlying25 rfl) (by decide) fun a hF => ?_
    refine s_val hF (x_gtr (b := false) (decide_eq_false (by omega)) rfl rfl) (by decide) fun a hF => ?_
    refine s_end (hK15 _ _ ?_)
    refine wp_if hF rfl ?_
    refine wp_skip (hK3 _ _ ?_)
    refine wp_rs fun K16 hK16 => ?_
    refine s_val hF (x_move rfl) (by decide) fun a hF => ?_
    refine s_val hF (x_ldW wide27 m3 rfl rfl) (by decide) fun a hF => ?_
    refine s_val hF (x_move rfl) (by decide) fun a hF => ?_
    refine s_val hF (x_move rfl) (by decide) fun a hF => ?_
    refine s_callC (R := fun v w' => v = .agg (enc2 (G c d (c.folds G d))).toArray ∧ Below w6.heap.size w6 w') hF [_, _, _] rfl hg rfl (by decide) ((HJ _ c x d _ hK hx hSz (by omega) (by omega) hkv).mono fun e w' h => ⟨_, h.1, rfl, h.2⟩) ?_
    rintro _ w42 a ⟨rfl, B42⟩ hF
    have sB42 := B42.size
    have hK := hK.trans (B42.mono hK.size)
    have hB := hB.trans (B42.mono hB.size)
    have m3 := m3.old B42
    have m6 := m6.old B42
    refine s_putW hF rfl rfl (size_wide wide93) m6 rfl (oneII _ _) fun w26 m6 o27 => ?_
    have so27 := o27.size
    have hK := hK.trans (o27.below (by omega))
    have hB := hB.trans (o27.below (by omega))
    have m3 := m3.only o27 (by omega)
    refine s_end (hK16 _ _ ?_)
    refine wp_ret (res_cell (cs := enc2 _) hF rfl rfl m6 wide93 ⟨by rw [CT.fold_eq], hB⟩)

end Go.Proofs.Ytaclncmkdpjnlaa
