/- copied, own, Max, Plus; awake. -/
import Derived.Test.YtnnkggfhhkhnmaaLev11
namespace Go.Proofs.Ytnnkggfhhkhnmaa
open Go.RowKit Go.Shelf
set_option linter.unusedVariables false
set_option linter.unusedSimpArgs false

set_option maxRecDepth 100000 in
set_option maxHeartbeats 1600000 in
theorem copied65 : ∀ (N : Nat) (s : SL) (x : C3) (w0 : World), s.size < N → RS w0 s x → Calls Try.prog 65 #[lv x] w0 fun e w' => ∃ u, e = .returned u ∧ (∃ z, u = lv z ∧ RSn w' (fun k => w0.heap.size ≤ k) s z) ∧ Below w0.heap.size w0 w' := by
  intro N
  induction N with
  | zero => intro s x w0 h; omega
  | succ N ih =>
  rintro s ⟨k, n, v⟩ w0 hN hS
  obtain ⟨xs, hR, hl, hk⟩ := hS.kids
  simp only at hR
  obtain ⟨av, cv, rfl, _⟩ := hR.form
  obtain ⟨e1, e2⟩ := hS.kd
  have hkd := s.kd_is
  have hle := s.kids_le
  have hB := Below.refl w0.heap.size w0
  have sB := hB.size
  refine calls_fs 37 [(0, .agg [.int .i64 k, .int .i64 n, .slice av xs.length cv].toArray)] Try.func65 rfl rfl rfl rfl rfl fun a hF => ?_
  refine wp_rs fun K1 hK1 => ?_
  refine s_box ([.int .i64 k, .int .i64 n, .slice av xs.length cv]) hF (by decide) rfl rfl fun w2 b1 a eb1 m1 B3 zb1 hF => ?_
  have sB3 := B3.size
  have hB := hB.trans (B3.mono hB.size)
  refine s_alloc hF (by decide) zero24 fun w4 b2 a eb2 m2 B5 zb2 hF => ?_
  have sB5 := B5.size
  have hB := hB.trans (B5.mono hB.size)
  have m1 := m1.old B5
  refine s_end (hK1 _ _ ?_)
  refine wp_rs fun K2 hK2 => ?_
  refine s_val hF (x_fa0 fa24_0 rfl) (by decide) fun a hF => ?_
  refine s_val hF (x_load rfl (m_load flat3 (m1.cell (j := 0) rfl))) (by decide) fun a hF => ?_
  refine s_val hF (x_build (vs := [(0, _)]) rfl (b24_0 _ _)) (by decide) fun a hF => ?_
  refine s_alloc hF (by decide) zero24 fun w6 b3 a eb3 m3 B7 zb3 hF => ?_
  have sB7 := B7.size
  have hB := hB.trans (B7.mono hB.size)
  have m1 := m1.old B7
  have m2 := m2.old B7
  refine s_putW hF rfl rfl (size_wide wide24) m3 rfl (one3 rfl) fun w8 m3 o9 => ?_
  have so9 := o9.size
  have hB := hB.trans (o9.below (by omega))
  have m1 := m1.only o9 (by omega)
  have m2 := m2.only o9 (by omega)
  refine s_end (hK2 _ _ ?_)
  refine wp_seq_k fun K3 hK3 => ?_
  refine wp_rs fun K4 hK4 => ?_
  refine s_val hF (x_fa0 fa24_0 rfl) (by decide) fun a hF => ?_
  refine s_val hF (x_load rfl (m_load flat3 (m1.cell (j := 0) rfl))) (by decide) fun a hF => ?_
  refine s_end (hK4 _ _ ?_)
  refine wp_block ?_
  refine wp_seq_k fun K5 hK5 => ?_
  rcases (show k = 1 ∨ k = 2 ∨ k = 3 ∨ k = 4 by omega) with hk1 | hk1 | hk1 | hk1
  · skip
    refine wp_rs fun K7 hK7 => ?_
    refine s_val hF (x_eql (b := true) (decide_eq_true (by omega)) rfl rfl) (by decide) fun a hF => ?_
    refine s_val hF (x_assign rfl) (by decide) fun a hF => ?_
    refine s_end (hK7 _ _ ?_)
    refine wp_if hF rfl ?_
    refine wp_skip (hK5 _ _ ?_)
    refine wp_if hF rfl ?_
    refine wp_region_lit ?_
    refine s_val hF (x_fa0 fa24_1 rfl) (by decide) fun a hF => ?_
    refine s_val hF (x_load rfl (m_load flat3 (m1.cell (j := 1) rfl))) (by decide) fun a hF => ?_
    refine s_val hF (x_fa0 fa24_1 rfl) (by decide) fun a hF => ?_
    refine s_put hF rfl rfl flat3 m3 (by first | (simp; done) | (show _ < 3; decide)) rfl fun w10 m3 o11 => ?_
    have so11 := o11.size
    have hB := hB.trans (o11.below (by omega))
    have m1 := m1.only o11 (by omega)
    have m2 := m2.only o11 (by omega)
    refine s_end (hK3 _ _ ?_)
    refine wp_seq_k fun K8 hK8 => ?_
    refine wp_rs fun K9 hK9 => ?_
    refine s_val hF (x_fa0 fa24_2 rfl) (by decide) fun a hF => ?_
    refine s_val hF (x_load rfl (m_load flat22 (m1.cell (j := 2) rfl))) (by decide) fun a hF => ?_
    refine s_val hF (x_len Try.underlying22 rfl) (by decide) fun a hF => ?_
    refine s_val hF (x_move rfl) (by decide) fun a hF => ?_
    refine s_end (hK9 _ _ ?_)
    refine wp_block ?_
    refine wp_up xs.length (fun i a w => ∃ v' o' zs, w.ownsRow w0.heap.size 24 3 v' zs.length (zs.flatMap lc) ∧ (∀ j, v'.ownBlock = some j → j = o') ∧ v'.ownBlock ≠ some b3 ∧ v'.ownBlock ≠ some b2 ∧ (w0.heap.size ≤ o' ∧ o' < w.heap.size ∧ (o' = b3 ∨ b3 < o')) ∧ PL w (fun k => w0.heap.size ≤ k ∧ k ≠ b2 ∧ k ≠ b3 ∧ k ≠ o' ∧ k < w.heap.size) zs (s.kids.take i) ∧ Blk w b3 24 [.int .i64 k, .int .i64 n, v'] ∧ Blk w b2 24 [.int .i64 0, .int .i64 0, .slice none 0 0] ∧ Below w0.heap.size w0 w ∧ Fs 37 a [(24, .int .i64 (i : Int)), (23, .int .i64 (xs.length : Int)), (22, .slice av xs.length cv), (2, .pointer (some ⟨b2, 0, none⟩)), (3, .pointer (some ⟨b3, 0, none⟩))]) ⟨_, b3, [], World.ownsRow_nil _ _ _ _, (fun j h => by cases h), (fun h => by cases h), (fun h => by cases h), by have := m3.lt; omega, by rw [List.take_zero]; exact PL.nil, m3, m2, hB, hF.sub _ rfl⟩ ?_
    have hbb : w0.heap.size ≤ b2 ∧ b2 < b3 := ⟨by omega, by omega⟩
    repeat clear hF
    clear hB m2 m3
    rintro i a w hi ⟨vv, o2, zs, hO, hat, hne, hne2, hlo, hP, mg, m2, hB, hF⟩ K' hK'
    have sB := hB.size
    have hgl := mg.lt
    obtain ⟨top, htop⟩ : ∃ h, h = w.heap.size := ⟨_, rfl⟩
    rw [← htop] at hP
    have hPl := hP.1
    rw [List.length_take] at hPl
    have h1vv := (Rd.own hO).one
    refine wp_rs fun K10 hK10 => ?_
    refine s_val hF (x_lss rfl rfl rfl) (by decide) fun a hF => ?_
    refine s_end (hK10 _ _ ?_)
    refine wp_seq_k fun K11 hK11 => ?_
    refine wp_iff hF rfl (fun hc25 => ?_) (fun hc25 => ?_)
    · obtain ⟨b, off, c, y, hve, hy, hrow⟩ := rd_row3 hR (i := i) (by omega)
      cases hve
      obtain ⟨p, hp⟩ : ∃ p, s.kids[i]? = some p := ⟨_, List.getElem?_eq_getElem (by omega)⟩
      have hps := SL.kids_size hp
      have hty := hk i y p hy hp
      have h1y := hty.one1
      refine wp_skip (hK11 _ _ ?_)
      refine wp_seq_k fun K12 hK12 => ?_
      refine wp_block ?_
      refine wp_rs fun K13 hK13 => ?_
      refine s_val hF (x_ixa rfl rfl (m_ixsK i Try.underlying22 el22.size rfl (by omega))) (by decide) fun a hF => ?_
      refine s_val hF (x_ldA wide24 (hrow _ hB) rfl rfl) (by decide) fun a hF => ?_
      refine s_alloc hF (by decide) zero24 fun w12 b5 a eb5 m5 B13 zb5 hF => ?_
      have sB13 := B13.size
      have hB := hB.trans (B13.mono hB.size)
      have m2 := m2.old B13
      have mg := mg.old B13
      have hO := own_below hO B13
      have hP := hP.below B13
      refine s_putW hF rfl rfl (size_wide wide24) m5 rfl (one_lc h1y) fun w14 m5 o15 => ?_
      have so15 := o15.size
      have hB := hB.trans (o15.below (by omega))
      have m2 := m2.only o15 (by omega)
      have mg := mg.only o15 (by omega)
      have hO := own_only hO o15 (fun e => by have := hat _ e; omega)
      have hP := hP.only o15 (fun k (hk : w0.heap.size ≤ k ∧ k ≠ b2 ∧ k ≠ b3 ∧ k ≠ o2 ∧ k < top) => by omega)
      refine s_end (hK13 _ _ ?_)
      refine dk2_one (b3) (o2) (ops := regOps Try.f65 12) (N := 8) (by kernel_rfl) wide_orders (by kernel_rfl) fun w16 hw16 B17 hS K14 hK14 => ?_
      have zw16 : w16.heap.size = w14.heap.size := by rw [hw16]
      have sB17 := B17.size
      have hB := hB.trans (B17.mono hB.size)
      have m2 := m2.old B17
      have mg := mg.old B17
      have hO := own_below hO B17
      have hP := hP.below B17
      have m5 := m5.old B17
      have m2_d := m2
      have mg_d := mg
      have hO_d := hO
      have hP_d := hP
      have m5_d := m5
      have hB_d := hB
      refine d_val 0 28 (op := (Go.Op.fieldAddr 24 (Go.Operand.tmp 3) 2)) hF hS (by kernel_rfl) (fun W hW => x_fa0 fa24_2 rfl) (by kernel_rfl) (by decide) fun a hF => ?_
      refine d_val 2 30 (op := (Go.Op.load 24 (Go.Operand.tmp 5))) hF hS (by kernel_rfl) (fun W hW => x_ldW wide24 (m5_d.k2 hW (by omega)) rfl rfl) (by kernel_rfl) (by decide) fun a hF => ?_
      refine d_two 1 3 (by kernel_rfl) ?_ ?_
      · refine d_op 1 (some 29) (Go.Op.load 22 (Go.Operand.tmp 28)) (by kernel_rfl) fun ty pos af => ?_
        refine s_val hF (x_load rfl (m_load flat22 (mg.cell (j := 2) rfl))) (by decide) fun a hF => ?_
        refine s_end ⟨hS, ?_⟩
        refine d_one 3 (some 31) (Go.Op.call (Go.Call.mk (Go.Callee.value (Go.Operand.func 65)) #[(Go.Operand.tmp 30)] #[24])) (by kernel_rfl) (by kernel_rfl) fun ty pos af => ?_
        refine s_callR (R := fun u w' => ∃ z, u = lv z ∧ RSn w' (fun k => w16.heap.size ≤ k) p z) [_] hF (enters_of Try.func65 (by kernel_rfl) rfl) rfl (by decide) (ih p y w16 (by omega) (RS.below hB hty)) ?_
        rintro _ w18 a ⟨z, rfl, hz0⟩ B19 hF
        have sB19 := B19.size
        have hB := hB.trans (B19.mono hB.size)
        have m2 := m2.old B19
        have mg := mg.old B19
        have hO := own_below hO B19
        have hP := hP.below B19
        have m5 := m5.old B19
        have hS := hS.below B19
        have hz := hz0.valid
        clear hz0
        have h1z := hz.rs.one1
        refine s_end ⟨hS, ?_⟩
        refine d_one 4 (some 32) (Go.Op.buildSlice 22 1 #[(0, (Go.Operand.tmp 31))]) (by kernel_rfl) (by kernel_rfl) fun ty pos af => ?_
        refine s_litG [lv z] el22 hF (by decide) rfl (by simp [Value.cells, lc]) rfl (by decide) (by decide) fun w20 bl a ebl ml B21 zbl hF => ?_
        have sB21 := B21.size
        have hB := hB.trans (B21.mono hB.size)
        have m2 := m2.old B21
        have mg := mg.old B21
        have hO := own_below hO B21
        have hP := hP.below B21
        have m5 := m5.old B21
        have hz := hz.below B21
        have hS := hS.below B21
        have ml : Blk w20 bl 24 (lc z) := by simpa [Value.cells] using ml
        refine s_end ⟨hS, ?_⟩
        refine d_one 5 (some 33) (Go.Op.call (Go.Call.mk (Go.Callee.builtin Go.Builtin.append) #[(Go.Operand.tmp 29), (Go.Operand.tmp 32)] #[22, 22])) (by kernel_rfl) (by kernel_rfl) fun ty pos af => ?_
        refine s_app1 (o := o2) el22 hF (by decide) rfl rfl hO ml rfl (one_lc h1z) hat (by omega) (by omega) (by decide) (by omega) fun v3 w22 a o3 hOn hOatn how hsrc k23 hkeep hF => ?_
        have sk23 := k23.size
        have hB := k23.under hB (by omega)
        have m2 : Blk w22 b2 _ _ := (hkeep _ m2.lt hne2).trans m2
        have mg : Blk w22 b3 _ _ := (hkeep _ mg.lt hne).trans mg
        have hP := hP.k2 k23 (fun k (hk : w0.heap.size ≤ k ∧ k ≠ b2 ∧ k ≠ b3 ∧ k ≠ o2 ∧ k < top) => by omega)
        have m5 := m5.k2 k23 (by omega)
        have hz := hz.k2 k23 (fun k (hk : w16.heap.size ≤ k ∧ k < w18.heap.size) => by omega)
        have ml := ml.k2 k23 (by omega)
        have hS := hS.trans k23 (by omega)
        have hO := hOn
        have hO_at := hOatn
        have hneg : v3.ownBlock ≠ some b3 := fun h => by rcases hsrc b3 h with h | h; exact hne h; omega
        have hneg2 : v3.ownBlock ≠ some b2 := fun h => by rcases hsrc b2 h with h | h; exact hne2 h; omega
        refine s_end ⟨hS, ?_⟩
        refine d_val 6 34 (op := (Go.Op.fieldAddr 24 (Go.Operand.tmp 3) 2)) hF hS (by kernel_rfl) (fun W hW => x_fa0 fa24_2 rfl) (by kernel_rfl) (by decide) fun a hF => ?_
        refine d_one 7 none (Go.Op.store 22 (Go.Operand.tmp 34) (Go.Operand.tmp 33)) (by kernel_rfl) (by kernel_rfl) fun ty pos af => ?_
        refine s_put hF rfl rfl flat22 mg (by first | (simp; done) | (show _ < 3; decide)) (Rd.own hO).one fun w24 mg o25 => ?_
        have so25 := o25.size
        have hB := hB.trans (o25.below (by omega))
        have m2 := m2.only o25 (by omega)
        have hO := own_only hO o25 (hneg)
        have hP := hP.only o25 (fun k (hk : w0.heap.size ≤ k ∧ k ≠ b2 ∧ k ≠ b3 ∧ k ≠ o2 ∧ k < top) => by omega)
        have m5 := m5.only o25 (by omega)
        have hz := hz.only o25 (fun k (hk : w16.heap.size ≤ k ∧ k < w18.heap.size) => by omega)
        have ml := ml.only o25 (by omega)
        have hS := hS.only o25 (by omega)
        refine s_end ⟨hS, ?_⟩
        refine d_end (by kernel_rfl) (hK14 _ _ ?_)
        refine hK12 _ _ ?_
        refine wp_region_lit ?_
        refine s_val hF (x_addn (i + 1) (by omega) (by omega) rfl rfl) (by decide) fun a hF => ?_
        refine s_val hF (x_move rfl) (by decide) fun a hF => ?_
        have hL2 : s.kids.take (i + 1) = s.kids.take i ++ [p] := by rw [List.take_add_one, hp]; rfl
        refine s_end (hK' _ _ (by omega) ⟨v3, o3, zs ++ [z], by rw [fm3_app]; simpa using hO, hO_at, hneg, hneg2, by omega, by rw [hL2]; exact (hP.mono (fun k (hk : w0.heap.size ≤ k ∧ k ≠ b2 ∧ k ≠ b3 ∧ k ≠ o2 ∧ k < top) => (by omega : _ ∧ _ ∧ _ ∧ _ ∧ _))).snoc (hz.mono (fun k (hk : w16.heap.size ≤ k ∧ k < w18.heap.size) => (by omega : _ ∧ _ ∧ _ ∧ _ ∧ _))), mg, m2, hB, hF.sub _ rfl⟩)
      · refine d_op 3 (some 31) (Go.Op.call (Go.Call.mk (Go.Callee.value (Go.Operand.func 65)) #[(Go.Operand.tmp 30)] #[24])) (by kernel_rfl) fun ty pos af => ?_
        refine s_callR (R := fun u w' => ∃ z, u = lv z ∧ RSn w' (fun k => w16.heap.size ≤ k) p z) [_] hF (enters_of Try.func65 (by kernel_rfl) rfl) rfl (by decide) (ih p y w16 (by omega) (RS.below hB hty)) ?_
        rintro _ w26 a ⟨z, rfl, hz0⟩ B27 hF
        have sB27 := B27.size
        have hB := hB.trans (B27.mono hB.size)
        have m2 := m2.old B27
        have mg := mg.old B27
        have hO := own_below hO B27
        have hP := hP.below B27
        have m5 := m5.old B27
        have hS := hS.below B27
        have hz := hz0.valid
        clear hz0
        have h1z := hz.rs.one1
        refine s_end ⟨hS, ?_⟩
        refine d_two 1 4 (by kernel_rfl) ?_ ?_
        · refine d_op 1 (some 29) (Go.Op.load 22 (Go.Operand.tmp 28)) (by kernel_rfl) fun ty pos af => ?_
          refine s_val hF (x_load rfl (m_load flat22 (mg.cell (j := 2) rfl))) (by decide) fun a hF => ?_
          refine s_end ⟨hS, ?_⟩
          refine d_one 4 (some 32) (Go.Op.buildSlice 22 1 #[(0, (Go.Operand.tmp 31))]) (by kernel_rfl) (by kernel_rfl) fun ty pos af => ?_
          refine s_litG [lv z] el22 hF (by decide) rfl (by simp [Value.cells, lc]) rfl (by decide) (by decide) fun w28 bl a ebl ml B29 zbl hF => ?_
          have sB29 := B29.size
          have hB := hB.trans (B29.mono hB.size)
          have m2 := m2.old B29
          have mg := mg.old B29
          have hO := own_below hO B29
          have hP := hP.below B29
          have m5 := m5.old B29
          have hz := hz.below B29
          have hS := hS.below B29
          have ml : Blk w28 bl 24 (lc z) := by simpa [Value.cells] using ml
          refine s_end ⟨hS, ?_⟩
          refine d_one 5 (some 33) (Go.Op.call (Go.Call.mk (Go.Callee.builtin Go.Builtin.append) #[(Go.Operand.tmp 29), (Go.Operand.tmp 32)] #[22, 22])) (by kernel_rfl) (by kernel_rfl) fun ty pos af => ?_
          refine s_app1 (o := o2) el22 hF (by decide) rfl rfl hO ml rfl (one_lc h1z) hat (by omega) (by omega) (by decide) (by omega) fun v3 w30 a o3 hOn hOatn how hsrc k31 hkeep hF => ?_
          have sk31 := k31.size
          have hB := k31.under hB (by omega)
          have m2 : Blk w30 b2 _ _ := (hkeep _ m2.lt hne2).trans m2
          have mg : Blk w30 b3 _ _ := (hkeep _ mg.lt hne).trans mg
          have hP := hP.k2 k31 (fun k (hk : w0.heap.size ≤ k ∧ k ≠ b2 ∧ k ≠ b3 ∧ k ≠ o2 ∧ k < top) => by omega)
          have m5 := m5.k2 k31 (by omega)
          have hz := hz.k2 k31 (fun k (hk : w16.heap.size ≤ k ∧ k < w26.heap.size) => by omega)
          have ml := ml.k2 k31 (by omega)
          have hS := hS.trans k31 (by omega)
          have hO := hOn
          have hO_at := hOatn
          have hneg : v3.ownBlock ≠ some b3 := fun h => by rcases hsrc b3 h with h | h; exact hne h; omega
          have hneg2 : v3.ownBlock ≠ some b2 := fun h => by rcases hsrc b2 h with h | h; exact hne2 h; omega
          refine s_end ⟨hS, ?_⟩
          refine d_val 6 34 (op := (Go.Op.fieldAddr 24 (Go.Operand.tmp 3) 2)) hF hS (by kernel_rfl) (fun W hW => x_fa0 fa24_2 rfl) (by kernel_rfl) (by decide) fun a hF => ?_
          refine d_one 7 none (Go.Op.store 22 (Go.Operand.tmp 34) (Go.Operand.tmp 33)) (by kernel_rfl) (by kernel_rfl) fun ty pos af => ?_
          refine s_put hF rfl rfl flat22 mg (by first | (simp; done) | (show _ < 3; decide)) (Rd.own hO).one fun w32 mg o33 => ?_
          have so33 := o33.size
          have hB := hB.trans (o33.below (by omega))
          have m2 := m2.only o33 (by omega)
          have hO := own_only hO o33 (hneg)
          have hP := hP.only o33 (fun k (hk : w0.heap.size ≤ k ∧ k ≠ b2 ∧ k ≠ b3 ∧ k ≠ o2 ∧ k < top) => by omega)
          have m5 := m5.only o33 (by omega)
          have hz := hz.only o33 (fun k (hk : w16.heap.size ≤ k ∧ k < w26.heap.size) => by omega)
          have ml := ml.only o33 (by omega)
          have hS := hS.only o33 (by omega)
          refine s_end ⟨hS, ?_⟩
          refine d_end (by kernel_rfl) (hK14 _ _ ?_)
          refine hK12 _ _ ?_
          refine wp_region_lit ?_
          refine s_val hF (x_addn (i + 1) (by omega) (by omega) rfl rfl) (by decide) fun a hF => ?_
          refine s_val hF (x_move rfl) (by decide) fun a hF => ?_
          have hL2 : s.kids.take (i + 1) = s.kids.take i ++ [p] := by rw [List.take_add_one, hp]; rfl
          refine s_end (hK' _ _ (by omega) ⟨v3, o3, zs ++ [z], by rw [fm3_app]; simpa using hO, hO_at, hneg, hneg2, by omega, by rw [hL2]; exact (hP.mono (fun k (hk : w0.heap.size ≤ k ∧ k ≠ b2 ∧ k ≠ b3 ∧ k ≠ o2 ∧ k < top) => (by omega : _ ∧ _ ∧ _ ∧ _ ∧ _))).snoc (hz.mono (fun k (hk : w16.heap.size ≤ k ∧ k < w26.heap.size) => (by omega : _ ∧ _ ∧ _ ∧ _ ∧ _))), mg, m2, hB, hF.sub _ rfl⟩)
        · refine d_op 4 (some 32) (Go.Op.buildSlice 22 1 #[(0, (Go.Operand.tmp 31))]) (by kernel_rfl) fun ty pos af => ?_
          refine s_litG [lv z] el22 hF (by decide) rfl (by simp [Value.cells, lc]) rfl (by decide) (by decide) fun w34 bl a ebl ml B35 zbl hF => ?_
          have sB35 := B35.size
          have hB := hB.trans (B35.mono hB.size)
          have m2 := m2.old B35
          have mg := mg.old B35
          have hO := own_below hO B35
          have hP := hP.below B35
          have m5 := m5.old B35
          have hz := hz.below B35
          have hS := hS.below B35
          have ml : Blk w34 bl 24 (lc z) := by simpa [Value.cells] using ml
          refine s_end ⟨hS, ?_⟩
          refine d_one 1 (some 29) (Go.Op.load 22 (Go.Operand.tmp 28)) (by kernel_rfl) (by kernel_rfl) fun ty pos af => ?_
          refine s_val hF (x_load rfl (m_load flat22 (mg.cell (j := 2) rfl))) (by decide) fun a hF => ?_
          refine s_end ⟨hS, ?_⟩
          refine d_one 5 (some 33) (Go.Op.call (Go.Call.mk (Go.Callee.builtin Go.Builtin.append) #[(Go.Operand.tmp 29), (Go.Operand.tmp 32)] #[22, 22])) (by kernel_rfl) (by kernel_rfl) fun ty pos af => ?_
          refine s_app1 (o := o2) el22 hF (by decide) rfl rfl hO ml rfl (one_lc h1z) hat (by omega) (by omega) (by decide) (by omega) fun v3 w36 a o3 hOn hOatn how hsrc k37 hkeep hF => ?_
          have sk37 := k37.size
          have hB := k37.under hB (by omega)
          have m2 : Blk w36 b2 _ _ := (hkeep _ m2.lt hne2).trans m2
          have mg : Blk w36 b3 _ _ := (hkeep _ mg.lt hne).trans mg
          have hP := hP.k2 k37 (fun k (hk : w0.heap.size ≤ k ∧ k ≠ b2 ∧ k ≠ b3 ∧ k ≠ o2 ∧ k < top) => by omega)
          have m5 := m5.k2 k37 (by omega)
          have hz := hz.k2 k37 (fun k (hk : w16.heap.size ≤ k ∧ k < w26.heap.size) => by omega)
          have ml := ml.k2 k37 (by omega)
          have hS := hS.trans k37 (by omega)
          have hO := hOn
          have hO_at := hOatn
          have hneg : v3.ownBlock ≠ some b3 := fun h => by rcases hsrc b3 h with h | h; exact hne h; omega
          have hneg2 : v3.ownBlock ≠ some b2 := fun h => by rcases hsrc b2 h with h | h; exact hne2 h; omega
          refine s_end ⟨hS, ?_⟩
          refine d_val 6 34 (op := (Go.Op.fieldAddr 24 (Go.Operand.tmp 3) 2)) hF hS (by kernel_rfl) (fun W hW => x_fa0 fa24_2 rfl) (by kernel_rfl) (by decide) fun a hF => ?_
          refine d_one 7 none (Go.Op.store 22 (Go.Operand.tmp 34) (Go.Operand.tmp 33)) (by kernel_rfl) (by kernel_rfl) fun ty pos af => ?_
          refine s_put hF rfl rfl flat22 mg (by first | (simp; done) | (show _ < 3; decide)) (Rd.own hO).one fun w38 mg o39 => ?_
          have so39 := o39.size
          have hB := hB.trans (o39.below (by omega))
          have m2 := m2.only o39 (by omega)
          have hO := own_only hO o39 (hneg)
          have hP := hP.only o39 (fun k (hk : w0.heap.size ≤ k ∧ k ≠ b2 ∧ k ≠ b3 ∧ k ≠ o2 ∧ k < top) => by omega)
          have m5 := m5.only o39 (by omega)
          have hz := hz.only o39 (fun k (hk : w16.heap.size ≤ k ∧ k < w26.heap.size) => by omega)
          have ml := ml.only o39 (by omega)
          have hS := hS.only o39 (by omega)
          refine s_end ⟨hS, ?_⟩
          refine d_end (by kernel_rfl) (hK14 _ _ ?_)
          refine hK12 _ _ ?_
          refine wp_region_lit ?_
          refine s_val hF (x_addn (i + 1) (by omega) (by omega) rfl rfl) (by decide) fun a hF => ?_
          refine s_val hF (x_move rfl) (by decide) fun a hF => ?_
          have hL2 : s.kids.take (i + 1) = s.kids.take i ++ [p] := by rw [List.take_add_one, hp]; rfl
          refine s_end (hK' _ _ (by omega) ⟨v3, o3, zs ++ [z], by rw [fm3_app]; simpa using hO, hO_at, hneg, hneg2, by omega, by rw [hL2]; exact (hP.mono (fun k (hk : w0.heap.size ≤ k ∧ k ≠ b2 ∧ k ≠ b3 ∧ k ≠ o2 ∧ k < top) => (by omega : _ ∧ _ ∧ _ ∧ _ ∧ _))).snoc (hz.mono (fun k (hk : w16.heap.size ≤ k ∧ k < w26.heap.size) => (by omega : _ ∧ _ ∧ _ ∧ _ ∧ _))), mg, m2, hB, hF.sub _ rfl⟩)
    · refine wp_exit (hK8 _ _ ?_)
      refine wp_rs fun K15 hK15 => ?_
      refine s_val hF (x_ldW wide24 mg rfl rfl) (by decide) fun a hF => ?_
      refine s_putW hF rfl rfl (size_wide wide24) m2 rfl (one3 h1vv) fun w40 m2 o41 => ?_
      have so41 := o41.size
      have hB := hB.trans (o41.below (by omega))
      have mg := mg.only o41 (by omega)
      have hO := own_only hO o41 (hne2)
      have hP := hP.only o41 (fun k (hk : w0.heap.size ≤ k ∧ k ≠ b2 ∧ k ≠ b3 ∧ k ≠ o2 ∧ k < top) => by omega)
      refine s_end (hK15 _ _ ?_)
      have hall : s.kids.take i = s.kids := List.take_of_length_le (by omega)
      rw [hall] at hP
      refine wp_ret (res_cell hF rfl rfl m2 wide24 ⟨_, rfl, ⟨(k, n, vv), rfl, by rw [e1]; exact rsn_of (fun h => e2 (by omega)) (Rd.own hO) (hP.mono (fun k (hk : w0.heap.size ≤ k ∧ k ≠ b2 ∧ k ≠ b3 ∧ k ≠ o2 ∧ k < top) => (by omega : _ ≤ _))) (fun j h => (hO.lt j h).1)⟩, hB⟩)
  · skip
    refine wp_rs fun K16 hK16 => ?_
    refine s_val hF (x_eql (b := false) (decide_eq_false (by omega)) rfl rfl) (by decide) fun a hF => ?_
    refine s_val hF (x_assign rfl) (by decide) fun a hF => ?_
    refine s_end (hK16 _ _ ?_)
    refine wp_if hF rfl ?_
    refine wp_rs fun K17 hK17 => ?_
    refine s_val hF (x_eql (b := true) (decide_eq_true (by omega)) rfl rfl) (by decide) fun a hF => ?_
    refine s_val hF (x_assign rfl) (by decide) fun a hF => ?_
    refine s_end (hK17 _ _ ?_)
    refine wp_if hF rfl ?_
    refine wp_skip (hK5 _ _ ?_)
    refine wp_if hF rfl ?_
    refine wp_region_lit ?_
    refine s_val hF (x_fa0 fa24_1 rfl) (by decide) fun a hF => ?_
    refine s_val hF (x_load rfl (m_load flat3 (m1.cell (j := 1) rfl))) (by decide) fun a hF => ?_
    refine s_val hF (x_fa0 fa24_1 rfl) (by decide) fun a hF => ?_
    refine s_put hF rfl rfl flat3 m3 (by first | (simp; done) | (show _ < 3; decide)) rfl fun w42 m3 o43 => ?_
    have so43 := o43.size
    have hB := hB.trans (o43.below (by omega))
    have m1 := m1.only o43 (by omega)
    have m2 := m2.only o43 (by omega)
    refine s_end (hK3 _ _ ?_)
    refine wp_seq_k fun K18 hK18 => ?_
    refine wp_rs fun K19 hK19 => ?_
    refine s_val hF (x_fa0 fa24_2 rfl) (by decide) fun a hF => ?_
    refine s_val hF (x_load rfl (m_load flat22 (m1.cell (j := 2) rfl))) (by decide) fun a hF => ?_
    refine s_val hF (x_len Try.underlying22 rfl) (by decide) fun a hF => ?_
    refine s_val hF (x_move rfl) (by decide) fun a hF => ?_
    refine s_end (hK19 _ _ ?_)
    refine wp_block ?_
    refine wp_up xs.length (fun i a w => ∃ v' o' zs, w.ownsRow w0.heap.size 24 3 v' zs.length (zs.flatMap lc) ∧ (∀ j, v'.ownBlock = some j → j = o') ∧ v'.ownBlock ≠ some b3 ∧ v'.ownBlock ≠ some b2 ∧ (w0.heap.size ≤ o' ∧ o' < w.heap.size ∧ (o' = b3 ∨ b3 < o')) ∧ PL w (fun k => w0.heap.size ≤ k ∧ k ≠ b2 ∧ k ≠ b3 ∧ k ≠ o' ∧ k < w.heap.size) zs (s.kids.take i) ∧ Blk w b3 24 [.int .i64 k, .int .i64 n, v'] ∧ Blk w b2 24 [.int .i64 0, .int .i64 0, .slice none 0 0] ∧ Below w0.heap.size w0 w ∧ Fs 37 a [(24, .int .i64 (i : Int)), (23, .int .i64 (xs.length : Int)), (22, .slice av xs.length cv), (2, .pointer (some ⟨b2, 0, none⟩)), (3, .pointer (some ⟨b3, 0, none⟩))]) ⟨_, b3, [], World.ownsRow_nil _ _ _ _, (fun j h => by cases h), (fun h => by cases h), (fun h => by cases h), by have := m3.lt; omega, by rw [List.take_zero]; exact PL.nil, m3, m2, hB, hF.sub _ rfl⟩ ?_
    have hbb : w0.heap.size ≤ b2 ∧ b2 < b3 := ⟨by omega, by omega⟩
    repeat clear hF
    clear hB m2 m3
    rintro i a w hi ⟨vv, o2, zs, hO, hat, hne, hne2, hlo, hP, mg, m2, hB, hF⟩ K' hK'
    have sB := hB.size
    have hgl := mg.lt
    obtain ⟨top, htop⟩ : ∃ h, h = w.heap.size := ⟨_, rfl⟩
    rw [← htop] at hP
    have hPl := hP.1
    rw [List.length_take] at hPl
    have h1vv := (Rd.own hO).one
    refine wp_rs fun K20 hK20 => ?_
    refine s_val hF (x_lss rfl rfl rfl) (by decide) fun a hF => ?_
    refine s_end (hK20 _ _ ?_)
    refine wp_seq_k fun K21 hK21 => ?_
    refine wp_iff hF rfl (fun hc25 => ?_) (fun hc25 => ?_)
    · obtain ⟨b, off, c, y, hve, hy, hrow⟩ := rd_row3 hR (i := i) (by omega)
      cases hve
      obtain ⟨p, hp⟩ : ∃ p, s.kids[i]? = some p := ⟨_, List.getElem?_eq_getElem (by omega)⟩
      have hps := SL.kids_size hp
      have hty := hk i y p hy hp
      have h1y := hty.one1
      refine wp_skip (hK21 _ _ ?_)
      refine wp_seq_k fun K22 hK22 => ?_
      refine wp_block ?_
      refine wp_rs fun K23 hK23 => ?_
      refine s_val hF (x_ixa rfl rfl (m_ixsK i Try.underlying22 el22.size rfl (by omega))) (by decide) fun a hF => ?_
      refine s_val hF (x_ldA wide24 (hrow _ hB) rfl rfl) (by decide) fun a hF => ?_
      refine s_alloc hF (by decide) zero24 fun w44 b5 a eb5 m5 B45 zb5 hF => ?_
      have sB45 := B45.size
      have hB := hB.trans (B45.mono hB.size)
      have m2 := m2.old B45
      have mg := mg.old B45
      have hO := own_below hO B45
      have hP := hP.below B45
      refine s_putW hF rfl rfl (size_wide wide24) m5 rfl (one_lc h1y) fun w46 m5 o47 => ?_
      have so47 := o47.size
      have hB := hB.trans (o47.below (by omega))
      have m2 := m2.only o47 (by omega)
      have mg := mg.only o47 (by omega)
      have hO := own_only hO o47 (fun e => by have := hat _ e; omega)
      have hP := hP.only o47 (fun k (hk : w0.heap.size ≤ k ∧ k ≠ b2 ∧ k ≠ b3 ∧ k ≠ o2 ∧ k < top) => by omega)
      refine s_end (hK23 _ _ ?_)
      refine dk2_one (b3) (o2) (ops := regOps Try.f65 12) (N := 8) (by kernel_rfl) wide_orders (by kernel_rfl) fun w48 hw48 B49 hS K24 hK24 => ?_
      have zw48 : w48.heap.size = w46.heap.size := by rw [hw48]
      have sB49 := B49.size
      have hB := hB.trans (B49.mono hB.size)
      have m2 := m2.old B49
      have mg := mg.old B49
      have hO := own_below hO B49
      have hP := hP.below B49
      have m5 := m5.old B49
      have m2_d := m2
      have mg_d := mg
      have hO_d := hO
      have hP_d := hP
      have m5_d := m5
      have hB_d := hB
      refine d_val 0 28 (op := (Go.Op.fieldAddr 24 (Go.Operand.tmp 3) 2)) hF hS (by kernel_rfl) (fun W hW => x_fa0 fa24_2 rfl) (by kernel_rfl) (by decide) fun a hF => ?_
      refine d_val 2 30 (op := (Go.Op.load 24 (Go.Operand.tmp 5))) hF hS (by kernel_rfl) (fun W hW => x_ldW wide24 (m5_d.k2 hW (by omega)) rfl rfl) (by kernel_rfl) (by decide) fun a hF => ?_
      refine d_two 1 3 (by kernel_rfl) ?_ ?_
      · refine d_op 1 (some 29) (Go.Op.load 22 (Go.Operand.tmp 28)) (by kernel_rfl) fun ty pos af => ?_
        refine s_val hF (x_load rfl (m_load flat22 (mg.cell (j := 2) rfl))) (by decide) fun a hF => ?_
        refine s_end ⟨hS, ?_⟩
        refine d_one 3 (some 31) (Go.Op.call (Go.Call.mk (Go.Callee.value (Go.Operand.func 65)) #[(Go.Operand.tmp 30)] #[24])) (by kernel_rfl) (by kernel_rfl) fun ty pos af => ?_
        refine s_callR (R := fun u w' => ∃ z, u = lv z ∧ RSn w' (fun k => w48.heap.size ≤ k) p z) [_] hF (enters_of Try.func65 (by kernel_rfl) rfl) rfl (by decide) (ih p y w48 (by omega) (RS.below hB hty)) ?_
        rintro _ w50 a ⟨z, rfl, hz0⟩ B51 hF
        have sB51 := B51.size
        have hB := hB.trans (B51.mono hB.size)
        have m2 := m2.old B51
        have mg := mg.old B51
        have hO := own_below hO B51
        have hP := hP.below B51
        have m5 := m5.old B51
        have hS := hS.below B51
        have hz := hz0.valid
        clear hz0
        have h1z := hz.rs.one1
        refine s_end ⟨hS, ?_⟩
        refine d_one 4 (some 32) (Go.Op.buildSlice 22 1 #[(0, (Go.Operand.tmp 31))]) (by kernel_rfl) (by kernel_rfl) fun ty pos af => ?_
        refine s_litG [lv z] el22 hF (by decide) rfl (by simp [Value.cells, lc]) rfl (by decide) (by decide) fun w52 bl a ebl ml B53 zbl hF => ?_
        have sB53 := B53.size
        have hB := hB.trans (B53.mono hB.size)
        have m2 := m2.old B53
        have mg := mg.old B53
        have hO := own_below hO B53
        have hP := hP.below B53
        have m5 := m5.old B53
        have hz := hz.below B53
        have hS := hS.below B53
        have ml : Blk w52 bl 24 (lc z) := by simpa [Value.cells] using ml
        refine s_end ⟨hS, ?_⟩
        refine d_one 5 (some 33) (Go.Op.call (Go.Call.mk (Go.Callee.builtin Go.Builtin.append) #[(Go.Operand.tmp 29), (Go.Operand.tmp 32)] #[22, 22])) (by kernel_rfl) (by kernel_rfl) fun ty pos af => ?_
        refine s_app1 (o := o2) el22 hF (by decide) rfl rfl hO ml rfl (one_lc h1z) hat (by omega) (by omega) (by decide) (by omega) fun v3 w54 a o3 hOn hOatn how hsrc k55 hkeep hF => ?_
        have sk55 := k55.size
        have hB := k55.under hB (by omega)
        have m2 : Blk w54 b2 _ _ := (hkeep _ m2.lt hne2).trans m2
        have mg : Blk w54 b3 _ _ := (hkeep _ mg.lt hne).trans mg
        have hP := hP.k2 k55 (fun k (hk : w0.heap.size ≤ k ∧ k ≠ b2 ∧ k ≠ b3 ∧ k ≠ o2 ∧ k < top) => by omega)
        have m5 := m5.k2 k55 (by omega)
        have hz := hz.k2 k55 (fun k (hk : w48.heap.size ≤ k ∧ k < w50.heap.size) => by omega)
        have ml := ml.k2 k55 (by omega)
        have hS := hS.trans k55 (by omega)
        have hO := hOn
        have hO_at := hOatn
        have hneg : v3.ownBlock ≠ some b3 := fun h => by rcases hsrc b3 h with h | h; exact hne h; omega
        have hneg2 : v3.ownBlock ≠ some b2 := fun h => by rcases hsrc b2 h with h | h; exact hne2 h; omega
        refine s_end ⟨hS, ?_⟩
        refine d_val 6 34 (op := (Go.Op.fieldAddr 24 (Go.Operand.tmp 3) 2)) hF hS (by kernel_rfl) (fun W hW => x_fa0 fa24_2 rfl) (by kernel_rfl) (by decide) fun a hF => ?_
        refine d_one 7 none (Go.Op.store 22 (Go.Operand.tmp 34) (Go.Operand.tmp 33)) (by kernel_rfl) (by kernel_rfl) fun ty pos af => ?_
        refine s_put hF rfl rfl flat22 mg (by first | (simp; done) | (show _ < 3; decide)) (Rd.own hO).one fun w56 mg o57 => ?_
        have so57 := o57.size
        have hB := hB.trans (o57.below (by omega))
        have m2 := m2.only o57 (by omega)
        have hO := own_only hO o57 (hneg)
        have hP := hP.only o57 (fun k (hk : w0.heap.size ≤ k ∧ k ≠ b2 ∧ k ≠ b3 ∧ k ≠ o2 ∧ k < top) => by omega)
        have m5 := m5.only o57 (by omega)
        have hz := hz.only o57 (fun k (hk : w48.heap.size ≤ k ∧ k < w50.heap.size) => by omega)
        have ml := ml.only o57 (by omega)
        have hS := hS.only o57 (by omega)
        refine s_end ⟨hS, ?_⟩
        refine d_end (by kernel_rfl) (hK24 _ _ ?_)
        refine hK22 _ _ ?_
        refine wp_region_lit ?_
        refine s_val hF (x_addn (i + 1) (by omega) (by omega) rfl rfl) (by decide) fun a hF => ?_
        refine s_val hF (x_move rfl) (by decide) fun a hF => ?_
        have hL2 : s.kids.take (i + 1) = s.kids.take i ++ [p] := by rw [List.take_add_one, hp]; rfl
        refine s_end (hK' _ _ (by omega) ⟨v3, o3, zs ++ [z], by rw [fm3_app]; simpa using hO, hO_at, hneg, hneg2, by omega, by rw [hL2]; exact (hP.mono (fun k (hk : w0.heap.size ≤ k ∧ k ≠ b2 ∧ k ≠ b3 ∧ k ≠ o2 ∧ k < top) => (by omega : _ ∧ _ ∧ _ ∧ _ ∧ _))).snoc (hz.mono (fun k (hk : w48.heap.size ≤ k ∧ k < w50.heap.size) => (by omega : _ ∧ _ ∧ _ ∧ _ ∧ _))), mg, m2, hB, hF.sub _ rfl⟩)
      · refine d_op 3 (some 31) (Go.Op.call (Go.Call.mk (Go.Callee.value (Go.Operand.func 65)) #[(Go.Operand.tmp 30)] #[24])) (by kernel_rfl) fun ty pos af => ?_
        refine s_callR (R := fun u w' => ∃ z, u = lv z ∧ RSn w' (fun k => w48.heap.size ≤ k) p z) [_] hF (enters_of Try.func65 (by kernel_rfl) rfl) rfl (by decide) (ih p y w48 (by omega) (RS.below hB hty)) ?_
        rintro _ w58 a ⟨z, rfl, hz0⟩ B59 hF
        have sB59 := B59.size
        have hB := hB.trans (B59.mono hB.size)
        have m2 := m2.old B59
        have mg := mg.old B59
        have hO := own_below hO B59
        have hP := hP.below B59
        have m5 := m5.old B59
        have hS := hS.below B59
        have hz := hz0.valid
        clear hz0
        have h1z := hz.rs.one1
        refine s_end ⟨hS, ?_⟩
        refine d_two 1 4 (by kernel_rfl) ?_ ?_
        · refine d_op 1 (some 29) (Go.Op.load 22 (Go.Operand.tmp 28)) (by kernel_rfl) fun ty pos af => ?_
          refine s_val hF (x_load rfl (m_load flat22 (mg.cell (j := 2) rfl))) (by decide) fun a hF => ?_
          refine s_end ⟨hS, ?_⟩
          refine d_one 4 (some 32) (Go.Op.buildSlice 22 1 #[(0, (Go.Operand.tmp 31))]) (by kernel_rfl) (by kernel_rfl) fun ty pos af => ?_
          refine s_litG [lv z] el22 hF (by decide) rfl (by simp [Value.cells, lc]) rfl (by decide) (by decide) fun w60 bl a ebl ml B61 zbl hF => ?_
          have sB61 := B61.size
          have hB := hB.trans (B61.mono hB.size)
          have m2 := m2.old B61
          have mg := mg.old B61
          have hO := own_below hO B61
          have hP := hP.below B61
          have m5 := m5.old B61
          have hz := hz.below B61
          have hS := hS.below B61
          have ml : Blk w60 bl 24 (lc z) := by simpa [Value.cells] using ml
          refine s_end ⟨hS, ?_⟩
          refine d_one 5 (some 33) (Go.Op.call (Go.Call.mk (Go.Callee.builtin Go.Builtin.append) #[(Go.Operand.tmp 29), (Go.Operand.tmp 32)] #[22, 22])) (by kernel_rfl) (by kernel_rfl) fun ty pos af => ?_
          refine s_app1 (o := o2) el22 hF (by decide) rfl rfl hO ml rfl (one_lc h1z) hat (by omega) (by omega) (by decide) (by omega) fun v3 w62 a o3 hOn hOatn how hsrc k63 hkeep hF => ?_
          have sk63 := k63.size
          have hB := k63.under hB (by omega)
          have m2 : Blk w62 b2 _ _ := (hkeep _ m2.lt hne2).trans m2
          have mg : Blk w62 b3 _ _ := (hkeep _ mg.lt hne).trans mg
          have hP := hP.k2 k63 (fun k (hk : w0.heap.size ≤ k ∧ k ≠ b2 ∧ k ≠ b3 ∧ k ≠ o2 ∧ k < top) => by omega)
          have m5 := m5.k2 k63 (by omega)
          have hz := hz.k2 k63 (fun k (hk : w48.heap.size ≤ k ∧ k < w58.heap.size) => by omega)
          have ml := ml.k2 k63 (by omega)
          have hS := hS.trans k63 (by omega)
          have hO := hOn
          have hO_at := hOatn
          have hneg : v3.ownBlock ≠ some b3 := fun h => by rcases hsrc b3 h with h | h; exact hne h; omega
          have hneg2 : v3.ownBlock ≠ some b2 := fun h => by rcases hsrc b2 h with h | h; exact hne2 h; omega
          refine s_end ⟨hS, ?_⟩
          refine d_val 6 34 (op := (Go.Op.fieldAddr 24 (Go.Operand.tmp 3) 2)) hF hS (by kernel_rfl) (fun W hW => x_fa0 fa24_2 rfl) (by kernel_rfl) (by decide) fun a hF => ?_
          refine d_one 7 none (Go.Op.store 22 (Go.Operand.tmp 34) (Go.Operand.tmp 33)) (by kernel_rfl) (by kernel_rfl) fun ty pos af => ?_
          refine s_put hF rfl rfl flat22 mg (by first | (simp; done) | (show _ < 3; decide)) (Rd.own hO).one fun w64 mg o65 => ?_
          have so65 := o65.size
          have hB := hB.trans (o65.below (by omega))
          have m2 := m2.only o65 (by omega)
          have hO := own_only hO o65 (hneg)
          have hP := hP.only o65 (fun k (hk : w0.heap.size ≤ k ∧ k ≠ b2 ∧ k ≠ b3 ∧ k ≠ o2 ∧ k < top) => by omega)
          have m5 := m5.only o65 (by omega)
          have hz := hz.only o65 (fun k (hk : w48.heap.size ≤ k ∧ k < w58.heap.size) => by omega)
          have ml := ml.only o65 (by omega)
          have hS := hS.only o65 (by omega)
          refine s_end ⟨hS, ?_⟩
          refine d_end (by kernel_rfl) (hK24 _ _ ?_)
          refine hK22 _ _ ?_
          refine wp_region_lit ?_
          refine s_val hF (x_addn (i + 1) (by omega) (by omega) rfl rfl) (by decide) fun a hF => ?_
          refine s_val hF (x_move rfl) (by decide) fun a hF => ?_
          have hL2 : s.kids.take (i + 1) = s.kids.take i ++ [p] := by rw [List.take_add_one, hp]; rfl
          refine s_end (hK' _ _ (by omega) ⟨v3, o3, zs ++ [z], by rw [fm3_app]; simpa using hO, hO_at, hneg, hneg2, by omega, by rw [hL2]; exact (hP.mono (fun k (hk : w0.heap.size ≤ k ∧ k ≠ b2 ∧ k ≠ b3 ∧ k ≠ o2 ∧ k < top) => (by omega : _ ∧ _ ∧ _ ∧ _ ∧ _))).snoc (hz.mono (fun k (hk : w48.heap.size ≤ k ∧ k < w58.heap.size) => (by omega : _ ∧ _ ∧ _ ∧ _ ∧ _))), mg, m2, hB, hF.sub _ rfl⟩)
        · refine d_op 4 (some 32) (Go.Op.buildSlice 22 1 #[(0, (Go.Operand.tmp 31))]) (by kernel_rfl) fun ty pos af => ?_
          refine s_litG [lv z] el22 hF (by decide) rfl (by simp [Value.cells, lc]) rfl (by decide) (by decide) fun w66 bl a ebl ml B67 zbl hF => ?_
          have sB67 := B67.size
          have hB := hB.trans (B67.mono hB.size)
          have m2 := m2.old B67
          have mg := mg.old B67
          have hO := own_below hO B67
          have hP := hP.below B67
          have m5 := m5.old B67
          have hz := hz.below B67
          have hS := hS.below B67
          have ml : Blk w66 bl 24 (lc z) := by simpa [Value.cells] using ml
          refine s_end ⟨hS, ?_⟩
          refine d_one 1 (some 29) (Go.Op.load 22 (Go.Operand.tmp 28)) (by kernel_rfl) (by kernel_rfl) fun ty pos af => ?_
          refine s_val hF (x_load rfl (m_load flat22 (mg.cell (j := 2) rfl))) (by decide) fun a hF => ?_
          refine s_end ⟨hS, ?_⟩
          refine d_one 5 (some 33) (Go.Op.call (Go.Call.mk (Go.Callee.builtin Go.Builtin.append) #[(Go.Operand.tmp 29), (Go.Operand.tmp 32)] #[22, 22])) (by kernel_rfl) (by kernel_rfl) fun ty pos af => ?_
          refine s_app1 (o := o2) el22 hF (by decide) rfl rfl hO ml rfl (one_lc h1z) hat (by omega) (by omega) (by decide) (by omega) fun v3 w68 a o3 hOn hOatn how hsrc k69 hkeep hF => ?_
          have sk69 := k69.size
          have hB := k69.under hB (by omega)
          have m2 : Blk w68 b2 _ _ := (hkeep _ m2.lt hne2).trans m2
          have mg : Blk w68 b3 _ _ := (hkeep _ mg.lt hne).trans mg
          have hP := hP.k2 k69 (fun k (hk : w0.heap.size ≤ k ∧ k ≠ b2 ∧ k ≠ b3 ∧ k ≠ o2 ∧ k < top) => by omega)
          have m5 := m5.k2 k69 (by omega)
          have hz := hz.k2 k69 (fun k (hk : w48.heap.size ≤ k ∧ k < w58.heap.size) => by omega)
          have ml := ml.k2 k69 (by omega)
          have hS := hS.trans k69 (by omega)
          have hO := hOn
          have hO_at := hOatn
          have hneg : v3.ownBlock ≠ some b3 := fun h => by rcases hsrc b3 h with h | h; exact hne h; omega
          have hneg2 : v3.ownBlock ≠ some b2 := fun h => by rcases hsrc b2 h with h | h; exact hne2 h; omega
          refine s_end ⟨hS, ?_⟩
          refine d_val 6 34 (op := (Go.Op.fieldAddr 24 (Go.Operand.tmp 3) 2)) hF hS (by kernel_rfl) (fun W hW => x_fa0 fa24_2 rfl) (by kernel_rfl) (by decide) fun a hF => ?_
          refine d_one 7 none (Go.Op.store 22 (Go.Operand.tmp 34) (Go.Operand.tmp 33)) (by kernel_rfl) (by kernel_rfl) fun ty pos af => ?_
          refine s_put hF rfl rfl flat22 mg (by first | (simp; done) | (show _ < 3; decide)) (Rd.own hO).one fun w70 mg o71 => ?_
          have so71 := o71.size
          have hB := hB.trans (o71.below (by omega))
          have m2 := m2.only o71 (by omega)
          have hO := own_only hO o71 (hneg)
          have hP := hP.only o71 (fun k (hk : w0.heap.size ≤ k ∧ k ≠ b2 ∧ k ≠ b3 ∧ k ≠ o2 ∧ k < top) => by omega)
          have m5 := m5.only o71 (by omega)
          have hz := hz.only o71 (fun k (hk : w48.heap.size ≤ k ∧ k < w58.heap.size) => by omega)
          have ml := ml.only o71 (by omega)
          have hS := hS.only o71 (by omega)
          refine s_end ⟨hS, ?_⟩
          refine d_end (by kernel_rfl) (hK24 _ _ ?_)
          refine hK22 _ _ ?_
          refine wp_region_lit ?_
          refine s_val hF (x_addn (i + 1) (by omega) (by omega) rfl rfl) (by decide) fun a hF => ?_
          refine s_val hF (x_move rfl) (by decide) fun a hF => ?_
          have hL2 : s.kids.take (i + 1) = s.kids.take i ++ [p] := by rw [List.take_add_one, hp]; rfl
          refine s_end (hK' _ _ (by omega) ⟨v3, o3, zs ++ [z], by rw [fm3_app]; simpa using hO, hO_at, hneg, hneg2, by omega, by rw [hL2]; exact (hP.mono (fun k (hk : w0.heap.size ≤ k ∧ k ≠ b2 ∧ k ≠ b3 ∧ k ≠ o2 ∧ k < top) => (by omega : _ ∧ _ ∧ _ ∧ _ ∧ _))).snoc (hz.mono (fun k (hk : w48.heap.size ≤ k ∧ k < w58.heap.size) => (by omega : _ ∧ _ ∧ _ ∧ _ ∧ _))), mg, m2, hB, hF.sub _ rfl⟩)
    · refine wp_exit (hK18 _ _ ?_)
      refine wp_rs fun K25 hK25 => ?_
      refine s_val hF (x_ldW wide24 mg rfl rfl) (by decide) fun a hF => ?_
      refine s_putW hF rfl rfl (size_wide wide24) m2 rfl (one3 h1vv) fun w72 m2 o73 => ?_
      have so73 := o73.size
      have hB := hB.trans (o73.below (by omega))
      have mg := mg.only o73 (by omega)
      have hO := own_only hO o73 (hne2)
      have hP := hP.only o73 (fun k (hk : w0.heap.size ≤ k ∧ k ≠ b2 ∧ k ≠ b3 ∧ k ≠ o2 ∧ k < top) => by omega)
      refine s_end (hK25 _ _ ?_)
      have hall : s.kids.take i = s.kids := List.take_of_length_le (by omega)
      rw [hall] at hP
      refine wp_ret (res_cell hF rfl rfl m2 wide24 ⟨_, rfl, ⟨(k, n, vv), rfl, by rw [e1]; exact rsn_of (fun h => e2 (by omega)) (Rd.own hO) (hP.mono (fun k (hk : w0.heap.size ≤ k ∧ k ≠ b2 ∧ k ≠ b3 ∧ k ≠ o2 ∧ k < top) => (by omega : _ ≤ _))) (fun j h => (hO.lt j h).1)⟩, hB⟩)
  · skip
    refine wp_rs fun K26 hK26 => ?_
    refine s_val hF (x_eql (b := false) (decide_eq_false (by omega)) rfl rfl) (by decide) fun a hF => ?_
    refine s_val hF (x_assign rfl) (by decide) fun a hF => ?_
    refine s_end (hK26 _ _ ?_)
    refine wp_if hF rfl ?_
    refine wp_rs fun K27 hK27 => ?_
    refine s_val hF (x_eql (b := false) (decide_eq_false (by omega)) rfl rfl) (by decide) fun a hF => ?_
    refine s_val hF (x_assign rfl) (by decide) fun a hF => ?_
    refine s_end (hK27 _ _ ?_)
    refine wp_if hF rfl ?_
    refine wp_region_lit ?_
    refine s_val hF (x_eql (b := true) (decide_eq_true (by omega)) rfl rfl) (by decide) fun a hF => ?_
    refine s_val hF (x_assign rfl) (by decide) fun a hF => ?_
    refine s_end (hK5 _ _ ?_)
    refine wp_if hF rfl ?_
    refine wp_region_lit ?_
    refine s_val hF (x_fa0 fa24_1 rfl) (by decide) fun a hF => ?_
    refine s_val hF (x_load rfl (m_load flat3 (m1.cell (j := 1) rfl))) (by decide) fun a hF => ?_
    refine s_val hF (x_fa0 fa24_1 rfl) (by decide) fun a hF => ?_
    refine s_put hF rfl rfl flat3 m3 (by first | (simp; done) | (show _ < 3; decide)) rfl fun w74 m3 o75 => ?_
    have so75 := o75.size
    have hB := hB.trans (o75.below (by omega))
    have m1 := m1.only o75 (by omega)
    have m2 := m2.only o75 (by omega)
    refine s_end (hK3 _ _ ?_)
    refine wp_seq_k fun K28 hK28 => ?_
    refine wp_rs fun K29 hK29 => ?_
    refine s_val hF (x_fa0 fa24_2 rfl) (by decide) fun a hF => ?_
    refine s_val hF (x_load rfl (m_load flat22 (m1.cell (j := 2) rfl))) (by decide) fun a hF => ?_
    refine s_val hF (x_len Try.underlying22 rfl) (by decide) fun a hF => ?_
    refine s_val hF (x_move rfl) (by decide) fun a hF => ?_
    refine s_end (hK29 _ _ ?_)
    refine wp_block ?_
    refine wp_up xs.length (fun i a w => ∃ v' o' zs, w.ownsRow w0.heap.size 24 3 v' zs.length (zs.flatMap lc) ∧ (∀ j, v'.ownBlock = some j → j = o') ∧ v'.ownBlock ≠ some b3 ∧ v'.ownBlock ≠ some b2 ∧ (w0.heap.size ≤ o' ∧ o' < w.heap.size ∧ (o' = b3 ∨ b3 < o')) ∧ PL w (fun k => w0.heap.size ≤ k ∧ k ≠ b2 ∧ k ≠ b3 ∧ k ≠ o' ∧ k < w.heap.size) zs (s.kids.take i) ∧ Blk w b3 24 [.int .i64 k, .int .i64 n, v'] ∧ Blk w b2 24 [.int .i64 0, .int .i64 0, .slice none 0 0] ∧ Below w0.heap.size w0 w ∧ Fs 37 a [(24, .int .i64 (i : Int)), (23, .int .i64 (xs.length : Int)), (22, .slice av xs.length cv), (2, .pointer (some ⟨b2, 0, none⟩)), (3, .pointer (some ⟨b3, 0, none⟩))]) ⟨_, b3, [], World.ownsRow_nil _ _ _ _, (fun j h => by cases h), (fun h => by cases h), (fun h => by cases h), by have := m3.lt; omega, by rw [List.take_zero]; exact PL.nil, m3, m2, hB, hF.sub _ rfl⟩ ?_
    have hbb : w0.heap.size ≤ b2 ∧ b2 < b3 := ⟨by omega, by omega⟩
    repeat clear hF
    clear hB m2 m3
    rintro i a w hi ⟨vv, o2, zs, hO, hat, hne, hne2, hlo, hP, mg, m2, hB, hF⟩ K' hK'
    have sB := hB.size
    have hgl := mg.lt
    obtain ⟨top, htop⟩ : ∃ h, h = w.heap.size := ⟨_, rfl⟩
    rw [← htop] at hP
    have hPl := hP.1
    rw [List.length_take] at hPl
    have h1vv := (Rd.own hO).one
    refine wp_rs fun K30 hK30 => ?_
    refine s_val hF (x_lss rfl rfl rfl) (by decide) fun a hF => ?_
    refine s_end (hK30 _ _ ?_)
    refine wp_seq_k fun K31 hK31 => ?_
    refine wp_iff hF rfl (fun hc25 => ?_) (fun hc25 => ?_)
    · obtain ⟨b, off, c, y, hve, hy, hrow⟩ := rd_row3 hR (i := i) (by omega)
      cases hve
      obtain ⟨p, hp⟩ : ∃ p, s.kids[i]? = some p := ⟨_, List.getElem?_eq_getElem (by omega)⟩
      have hps := SL.kids_size hp
      have hty := hk i y p hy hp
      have h1y := hty.one1
      refine wp_skip (hK31 _ _ ?_)
      refine wp_seq_k fun K32 hK32 => ?_
      refine wp_block ?_
      refine wp_rs fun K33 hK33 => ?_
      refine s_val hF (x_ixa rfl rfl (m_ixsK i Try.underlying22 el22.size rfl (by omega))) (by decide) fun a hF => ?_
      refine s_val hF (x_ldA wide24 (hrow _ hB) rfl rfl) (by decide) fun a hF => ?_
      refine s_alloc hF (by decide) zero24 fun w76 b5 a eb5 m5 B77 zb5 hF => ?_
      have sB77 := B77.size
      have hB := hB.trans (B77.mono hB.size)
      have m2 := m2.old B77
      have mg := mg.old B77
      have hO := own_below hO B77
      have hP := hP.below B77
      refine s_putW hF rfl rfl (size_wide wide24) m5 rfl (one_lc h1y) fun w78 m5 o79 => ?_
      have so79 := o79.size
      have hB := hB.trans (o79.below (by omega))
      have m2 := m2.only o79 (by omega)
      have mg := mg.only o79 (by omega)
      have hO := own_only hO o79 (fun e => by have := hat _ e; omega)
      have hP := hP.only o79 (fun k (hk : w0.heap.size ≤ k ∧ k ≠ b2 ∧ k ≠ b3 ∧ k ≠ o2 ∧ k < top) => by omega)
      refine s_end (hK33 _ _ ?_)
      refine dk2_one (b3) (o2) (ops := regOps Try.f65 12) (N := 8) (by kernel_rfl) wide_orders (by kernel_rfl) fun w80 hw80 B81 hS K34 hK34 => ?_
      have zw80 : w80.heap.size = w78.heap.size := by rw [hw80]
      have sB81 := B81.size
      have hB := hB.trans (B81.mono hB.size)
      have m2 := m2.old B81
      have mg := mg.old B81
      have hO := own_below hO B81
      have hP := hP.below B81
      have m5 := m5.old B81
      have m2_d := m2
      have mg_d := mg
      have hO_d := hO
      have hP_d := hP
      have m5_d := m5
      have hB_d := hB
      refine d_val 0 28 (op := (Go.Op.fieldAddr 24 (Go.Operand.tmp 3) 2)) hF hS (by kernel_rfl) (fun W hW => x_fa0 fa24_2 rfl) (by kernel_rfl) (by decide) fun a hF => ?_
      refine d_val 2 30 (op := (Go.Op.load 24 (Go.Operand.tmp 5))) hF hS (by kernel_rfl) (fun W hW => x_ldW wide24 (m5_d.k2 hW (by omega)) rfl rfl) (by kernel_rfl) (by decide) fun a hF => ?_
      refine d_two 1 3 (by kernel_rfl) ?_ ?_
      · refine d_op 1 (some 29) (Go.Op.load 22 (Go.Operand.tmp 28)) (by kernel_rfl) fun ty pos af => ?_
        refine s_val hF (x_load rfl (m_load flat22 (mg.cell (j := 2) rfl))) (by decide) fun a hF => ?_
        refine s_end ⟨hS, ?_⟩
        refine d_one 3 (some 31) (Go.Op.call (Go.Call.mk (Go.Callee.value (Go.Operand.func 65)) #[(Go.Operand.tmp 30)] #[24])) (by kernel_rfl) (by kernel_rfl) fun ty pos af => ?_
        refine s_callR (R := fun u w' => ∃ z, u = lv z ∧ RSn w' (fun k => w80.heap.size ≤ k) p z) [_] hF (enters_of Try.func65 (by kernel_rfl) rfl) rfl (by decide) (ih p y w80 (by omega) (RS.below hB hty)) ?_
        rintro _ w82 a ⟨z, rfl, hz0⟩ B83 hF
        have sB83 := B83.size
        have hB := hB.trans (B83.mono hB.size)
        have m2 := m2.old B83
        have mg := mg.old B83
        have hO := own_below hO B83
        have hP := hP.below B83
        have m5 := m5.old B83
        have hS := hS.below B83
        have hz := hz0.valid
        clear hz0
        have h1z := hz.rs.one1
        refine s_end ⟨hS, ?_⟩
        refine d_one 4 (some 32) (Go.Op.buildSlice 22 1 #[(0, (Go.Operand.tmp 31))]) (by kernel_rfl) (by kernel_rfl) fun ty pos af => ?_
        refine s_litG [lv z] el22 hF (by decide) rfl (by simp [Value.cells, lc]) rfl (by decide) (by decide) fun w84 bl a ebl ml B85 zbl hF => ?_
        have sB85 := B85.size
        have hB := hB.trans (B85.mono hB.size)
        have m2 := m2.old B85
        have mg := mg.old B85
        have hO := own_below hO B85
        have hP := hP.below B85
        have m5 := m5.old B85
        have hz := hz.below B85
        have hS := hS.below B85
        have ml : Blk w84 bl 24 (lc z) := by simpa [Value.cells] using ml
        refine s_end ⟨hS, ?_⟩
        refine d_one 5 (some 33) (Go.Op.call (Go.Call.mk (Go.Callee.builtin Go.Builtin.append) #[(Go.Operand.tmp 29), (Go.Operand.tmp 32)] #[22, 22])) (by kernel_rfl) (by kernel_rfl) fun ty pos af => ?_
        refine s_app1 (o := o2) el22 hF (by decide) rfl rfl hO ml rfl (one_lc h1z) hat (by omega) (by omega) (by decide) (by omega) fun v3 w86 a o3 hOn hOatn how hsrc k87 hkeep hF => ?_
        have sk87 := k87.size
        have hB := k87.under hB (by omega)
        have m2 : Blk w86 b2 _ _ := (hkeep _ m2.lt hne2).trans m2
        have mg : Blk w86 b3 _ _ := (hkeep _ mg.lt hne).trans mg
        have hP := hP.k2 k87 (fun k (hk : w0.heap.size ≤ k ∧ k ≠ b2 ∧ k ≠ b3 ∧ k ≠ o2 ∧ k < top) => by omega)
        have m5 := m5.k2 k87 (by omega)
        have hz := hz.k2 k87 (fun k (hk : w80.heap.size ≤ k ∧ k < w82.heap.size) => by omega)
        have ml := ml.k2 k87 (by omega)
        have hS := hS.trans k87 (by omega)
        have hO := hOn
        have hO_at := hOatn
        have hneg : v3.ownBlock ≠ some b3 := fun h => by rcases hsrc b3 h with h | h; exact hne h; omega
        have hneg2 : v3.ownBlock ≠ some b2 := fun h => by rcases hsrc b2 h with h | h; exact hne2 h; omega
        refine s_end ⟨hS, ?_⟩
        refine d_val 6 34 (op := (Go.Op.fieldAddr 24 (Go.Operand.tmp 3) 2)) hF hS (by kernel_rfl) (fun W hW => x_fa0 fa24_2 rfl) (by kernel_rfl) (by decide) fun a hF => ?_
        refine d_one 7 none (Go.Op.store 22 (Go.Operand.tmp 34) (Go.Operand.tmp 33)) (by kernel_rfl) (by kernel_rfl) fun ty pos af => ?_
        refine s_put hF rfl rfl flat22 mg (by first | (simp; done) | (show _ < 3; decide)) (Rd.own hO).one fun w88 mg o89 => ?_
        have so89 := o89.size
        have hB := hB.trans (o89.below (by omega))
        have m2 := m2.only o89 (by omega)
        have hO := own_only hO o89 (hneg)
        have hP := hP.only o89 (fun k (hk : w0.heap.size ≤ k ∧ k ≠ b2 ∧ k ≠ b3 ∧ k ≠ o2 ∧ k < top) => by omega)
        have m5 := m5.only o89 (by omega)
        have hz := hz.only o89 (fun k (hk : w80.heap.size ≤ k ∧ k < w82.heap.size) => by omega)
        have ml := ml.only o89 (by omega)
        have hS := hS.only o89 (by omega)
        refine s_end ⟨hS, ?_⟩
        refine d_end (by kernel_rfl) (hK34 _ _ ?_)
        refine hK32 _ _ ?_
        refine wp_region_lit ?_
        refine s_val hF (x_addn (i + 1) (by omega) (by omega) rfl rfl) (by decide) fun a hF => ?_
        refine s_val hF (x_move rfl) (by decide) fun a hF => ?_
        have hL2 : s.kids.take (i + 1) = s.kids.take i ++ [p] := by rw [List.take_add_one, hp]; rfl
        refine s_end (hK' _ _ (by omega) ⟨v3, o3, zs ++ [z], by rw [fm3_app]; simpa using hO, hO_at, hneg, hneg2, by omega, by rw [hL2]; exact (hP.mono (fun k (hk : w0.heap.size ≤ k ∧ k ≠ b2 ∧ k ≠ b3 ∧ k ≠ o2 ∧ k < top) => (by omega : _ ∧ _ ∧ _ ∧ _ ∧ _))).snoc (hz.mono (fun k (hk : w80.heap.size ≤ k ∧ k < w82.heap.size) => (by omega : _ ∧ _ ∧ _ ∧ _ ∧ _))), mg, m2, hB, hF.sub _ rfl⟩)
      · refine d_op 3 (some 31) (Go.Op.call (Go.Call.mk (Go.Callee.value (Go.Operand.func 65)) #[(Go.Operand.tmp 30)] #[24])) (by kernel_rfl) fun ty pos af => ?_
        refine s_callR (R := fun u w' => ∃ z, u = lv z ∧ RSn w' (fun k => w80.heap.size ≤ k) p z) [_] hF (enters_of Try.func65 (by kernel_rfl) rfl) rfl (by decide) (ih p y w80 (by omega) (RS.below hB hty)) ?_
        rintro _ w90 a ⟨z, rfl, hz0⟩ B91 hF
        have sB91 := B91.size
        have hB := hB.trans (B91.mono hB.size)
        have m2 := m2.old B91
        have mg := mg.old B91
        have hO := own_below hO B91
        have hP := hP.below B91
        have m5 := m5.old B91
        have hS := hS.below B91
        have hz := hz0.valid
        clear hz0
        have h1z := hz.rs.one1
        refine s_end ⟨hS, ?_⟩
        refine d_two 1 4 (by kernel_rfl) ?_ ?_
        · refine d_op 1 (some 29) (Go.Op.load 22 (Go.Operand.tmp 28)) (by kernel_rfl) fun ty pos af => ?_
          refine s_val hF (x_load rfl (m_load flat22 (mg.cell (j := 2) rfl))) (by decide) fun a hF => ?_
          refine s_end ⟨hS, ?_⟩
          refine d_one 4 (some 32) (Go.Op.buildSlice 22 1 #[(0, (Go.Operand.tmp 31))]) (by kernel_rfl) (by kernel_rfl) fun ty pos af => ?_
          refine s_litG [lv z] el22 hF (by decide) rfl (by simp [Value.cells, lc]) rfl (by decide) (by decide) fun w92 bl a ebl ml B93 zbl hF => ?_
          have sB93 := B93.size
          have hB := hB.trans (B93.mono hB.size)
          have m2 := m2.old B93
          have mg := mg.old B93
          have hO := own_below hO B93
          have hP := hP.below B93
          have m5 := m5.old B93
          have hz := hz.below B93
          have hS := hS.below B93
          have ml : Blk w92 bl 24 (lc z) := by simpa [Value.cells] using ml
          refine s_end ⟨hS, ?_⟩
          refine d_one 5 (some 33) (Go.Op.call (Go.Call.mk (Go.Callee.builtin Go.Builtin.append) #[(Go.Operand.tmp 29), (Go.Operand.tmp 32)] #[22, 22])) (by kernel_rfl) (by kernel_rfl) fun ty pos af => ?_
          refine s_app1 (o := o2) el22 hF (by decide) rfl rfl hO ml rfl (one_lc h1z) hat (by omega) (by omega) (by decide) (by omega) fun v3 w94 a o3 hOn hOatn how hsrc k95 hkeep hF => ?_
          have sk95 := k95.size
          have hB := k95.under hB (by omega)
          have m2 : Blk w94 b2 _ _ := (hkeep _ m2.lt hne2).trans m2
          have mg : Blk w94 b3 _ _ := (hkeep _ mg.lt hne).trans mg
          have hP := hP.k2 k95 (fun k (hk : w0.heap.size ≤ k ∧ k ≠ b2 ∧ k ≠ b3 ∧ k ≠ o2 ∧ k < top) => by omega)
          have m5 := m5.k2 k95 (by omega)
          have hz := hz.k2 k95 (fun k (hk : w80.heap.size ≤ k ∧ k < w90.heap.size) => by omega)
          have ml := ml.k2 k95 (by omega)
          have hS := hS.trans k95 (by omega)
          have hO := hOn
          have hO_at := hOatn
          have hneg : v3.ownBlock ≠ some b3 := fun h => by rcases hsrc b3 h with h | h; exact hne h; omega
          have hneg2 : v3.ownBlock ≠ some b2 := fun h => by rcases hsrc b2 h with h | h; exact hne2 h; omega
          refine s_end ⟨hS, ?_⟩
          refine d_val 6 34 (op := (Go.Op.fieldAddr 24 (Go.Operand.tmp 3) 2)) hF hS (by kernel_rfl) (fun W hW => x_fa0 fa24_2 rfl) (by kernel_rfl) (by decide) fun a hF => ?_
          refine d_one 7 none (Go.Op.store 22 (Go.Operand.tmp 34) (Go.Operand.tmp 33)) (by kernel_rfl) (by kernel_rfl) fun ty pos af => ?_
          refine s_put hF rfl rfl flat22 mg (by first | (simp; done) | (show _ < 3; decide)) (Rd.own hO).one fun w96 mg o97 => ?_
          have so97 := o97.size
          have hB := hB.trans (o97.below (by omega))
          have m2 := m2.only o97 (by omega)
          have hO := own_only hO o97 (hneg)
          have hP := hP.only o97 (fun k (hk : w0.heap.size ≤ k ∧ k ≠ b2 ∧ k ≠ b3 ∧ k ≠ o2 ∧ k < top) => by omega)
          have m5 := m5.only o97 (by omega)
          have hz := hz.only o97 (fun k (hk : w80.heap.size ≤ k ∧ k < w90.heap.size) => by omega)
          have ml := ml.only o97 (by omega)
          have hS := hS.only o97 (by omega)
          refine s_end ⟨hS, ?_⟩
          refine d_end (by kernel_rfl) (hK34 _ _ ?_)
          refine hK32 _ _ ?_
          refine wp_region_lit ?_
          refine s_val hF (x_addn (i + 1) (by omega) (by omega) rfl rfl) (by decide) fun a hF => ?_
          refine s_val hF (x_move rfl) (by decide) fun a hF => ?_
          have hL2 : s.kids.take (i + 1) = s.kids.take i ++ [p] := by rw [List.take_add_one, hp]; rfl
          refine s_end (hK' _ _ (by omega) ⟨v3, o3, zs ++ [z], by rw [fm3_app]; simpa using hO, hO_at, hneg, hneg2, by omega, by rw [hL2]; exact (hP.mono (fun k (hk : w0.heap.size ≤ k ∧ k ≠ b2 ∧ k ≠ b3 ∧ k ≠ o2 ∧ k < top) => (by omega : _ ∧ _ ∧ _ ∧ _ ∧ _))).snoc (hz.mono (fun k (hk : w80.heap.size ≤ k ∧ k < w90.heap.size) => (by omega : _ ∧ _ ∧ _ ∧ _ ∧ _))), mg, m2, hB, hF.sub _ rfl⟩)
        · refine d_op 4 (some 32) (Go.Op.buildSlice 22 1 #[(0, (Go.Operand.tmp 31))]) (by kernel_rfl) fun ty pos af => ?_
          refine s_litG [lv z] el22 hF (by decide) rfl (by simp [Value.cells, lc]) rfl (by decide) (by decide) fun w98 bl a ebl ml B99 zbl hF => ?_
          have sB99 := B99.size
          have hB := hB.trans (B99.mono hB.size)
          have m2 := m2.old B99
          have mg := mg.old B99
          have hO := own_below hO B99
          have hP := hP.below B99
          have m5 := m5.old B99
          have hz := hz.below B99
          have hS := hS.below B99
          have ml : Blk w98 bl 24 (lc z) := by simpa [Value.cells] using ml
          refine s_end ⟨hS, ?_⟩
          refine d_one 1 (some 29) (Go.Op.load 22 (Go.Operand.tmp 28)) (by kernel_rfl) (by kernel_rfl) fun ty pos af => ?_
          refine s_val hF (x_load rfl (m_load flat22 (mg.cell (j := 2) rfl))) (by decide) fun a hF => ?_
          refine s_end ⟨hS, ?_⟩
          refine d_one 5 (some 33) (Go.Op.call (Go.Call.mk (Go.Callee.builtin Go.Builtin.append) #[(Go.Operand.tmp 29), (Go.Operand.tmp 32)] #[22, 22])) (by kernel_rfl) (by kernel_rfl) fun ty pos af => ?_
          refine s_app1 (o := o2) el22 hF (by decide) rfl rfl hO ml rfl (one_lc h1z) hat (by omega) (by omega) (by decide) (by omega) fun v3 w100 a o3 hOn hOatn how hsrc k101 hkeep hF => ?_
          have sk101 := k101.size
          have hB := k101.under hB (by omega)
          have m2 : Blk w100 b2 _ _ := (hkeep _ m2.lt hne2).trans m2
          have mg : Blk w100 b3 _ _ := (hkeep _ mg.lt hne).trans mg
          have hP := hP.k2 k101 (fun k (hk : w0.heap.size ≤ k ∧ k ≠ b2 ∧ k ≠ b3 ∧ k ≠ o2 ∧ k < top) => by omega)
          have m5 := m5.k2 k101 (by omega)
          have hz := hz.k2 k101 (fun k (hk : w80.heap.size ≤ k ∧ k < w90.heap.size) => by omega)
          have ml := ml.k2 k101 (by omega)
          have hS := hS.trans k101 (by omega)
          have hO := hOn
          have hO_at := hOatn
          have hneg : v3.ownBlock ≠ some b3 := fun h => by rcases hsrc b3 h with h | h; exact hne h; omega
          have hneg2 : v3.ownBlock ≠ some b2 := fun h => by rcases hsrc b2 h with h | h; exact hne2 h; omega
          refine s_end ⟨hS, ?_⟩
          refine d_val 6 34 (op := (Go.Op.fieldAddr 24 (Go.Operand.tmp 3) 2)) hF hS (by kernel_rfl) (fun W hW => x_fa0 fa24_2 rfl) (by kernel_rfl) (by decide) fun a hF => ?_
          refine d_one 7 none (Go.Op.store 22 (Go.Operand.tmp 34) (Go.Operand.tmp 33)) (by kernel_rfl) (by kernel_rfl) fun ty pos af => ?_
          refine s_put hF rfl rfl flat22 mg (by first | (simp; done) | (show _ < 3; decide)) (Rd.own hO).one fun w102 mg o103 => ?_
          have so103 := o103.size
          have hB := hB.trans (o103.below (by omega))
          have m2 := m2.only o103 (by omega)
          have hO := own_only hO o103 (hneg)
          have hP := hP.only o103 (fun k (hk : w0.heap.size ≤ k ∧ k ≠ b2 ∧ k ≠ b3 ∧ k ≠ o2 ∧ k < top) => by omega)
          have m5 := m5.only o103 (by omega)
          have hz := hz.only o103 (fun k (hk : w80.heap.size ≤ k ∧ k < w90.heap.size) => by omega)
          have ml := ml.only o103 (by omega)
          have hS := hS.only o103 (by omega)
          refine s_end ⟨hS, ?_⟩
          refine d_end (by kernel_rfl) (hK34 _ _ ?_)
          refine hK32 _ _ ?_
          refine wp_region_lit ?_
          refine s_val hF (x_addn (i + 1) (by omega) (by omega) rfl rfl) (by decide) fun a hF => ?_
          refine s_val hF (x_move rfl) (by decide) fun a hF => ?_
          have hL2 : s.kids.take (i + 1) = s.kids.take i ++ [p] := by rw [List.take_add_one, hp]; rfl
          refine s_end (hK' _ _ (by omega) ⟨v3, o3, zs ++ [z], by rw [fm3_app]; simpa using hO, hO_at, hneg, hneg2, by omega, by rw [hL2]; exact (hP.mono (fun k (hk : w0.heap.size ≤ k ∧ k ≠ b2 ∧ k ≠ b3 ∧ k ≠ o2 ∧ k < top) => (by omega : _ ∧ _ ∧ _ ∧ _ ∧ _))).snoc (hz.mono (fun k (hk : w80.heap.size ≤ k ∧ k < w90.heap.size) => (by omega : _ ∧ _ ∧ _ ∧ _ ∧ _))), mg, m2, hB, hF.sub _ rfl⟩)
    · refine wp_exit (hK28 _ _ ?_)
      refine wp_rs fun K35 hK35 => ?_
      refine s_val hF (x_ldW wide24 mg rfl rfl) (by decide) fun a hF => ?_
      refine s_putW hF rfl rfl (size_wide wide24) m2 rfl (one3 h1vv) fun w104 m2 o105 => ?_
      have so105 := o105.size
      have hB := hB.trans (o105.below (by omega))
      have mg := mg.only o105 (by omega)
      have hO := own_only hO o105 (hne2)
      have hP := hP.only o105 (fun k (hk : w0.heap.size ≤ k ∧ k ≠ b2 ∧ k ≠ b3 ∧ k ≠ o2 ∧ k < top) => by omega)
      refine s_end (hK35 _ _ ?_)
      have hall : s.kids.take i = s.kids := List.take_of_length_le (by omega)
      rw [hall] at hP
      refine wp_ret (res_cell hF rfl rfl m2 wide24 ⟨_, rfl, ⟨(k, n, vv), rfl, by rw [e1]; exact rsn_of (fun h => e2 (by omega)) (Rd.own hO) (hP.mono (fun k (hk : w0.heap.size ≤ k ∧ k ≠ b2 ∧ k ≠ b3 ∧ k ≠ o2 ∧ k < top) => (by omega : _ ≤ _))) (fun j h => (hO.lt j h).1)⟩, hB⟩)
  · skip
    refine wp_rs fun K36 hK36 => ?_
    refine s_val hF (x_eql (b := false) (decide_eq_false (by omega)) rfl rfl) (by decide) fun a hF => ?_
    refine s_val hF (x_assign rfl) (by decide) fun a hF => ?_
    refine s_end (hK36 _ _ ?_)
    refine wp_if hF rfl ?_
    refine wp_rs fun K37 hK37 => ?_
    refine s_val hF (x_eql (b := false) (decide_eq_false (by omega)) rfl rfl) (by decide) fun a hF => ?_
    refine s_val hF (x_assign rfl) (by decide) fun a hF => ?_
    refine s_end (hK37 _ _ ?_)
    refine wp_if hF rfl ?_
    refine wp_region_lit ?_
    refine s_val hF (x_eql (b := false) (decide_eq_false (by omega)) rfl rfl) (by decide) fun a hF => ?_
    refine s_val hF (x_assign rfl) (by decide) fun a hF => ?_
    refine s_end (hK5 _ _ ?_)
    refine wp_if hF rfl ?_
    refine wp_rs fun K38 hK38 => ?_
    refine s_val hF (x_eql (b := true) (decide_eq_true (by omega)) rfl rfl) (by decide) fun a hF => ?_
    refine s_val hF (x_assign rfl) (by decide) fun a hF => ?_
    refine s_end (hK38 _ _ ?_)
    refine wp_if hF rfl ?_
    refine wp_skip (hK3 _ _ ?_)
    refine wp_seq_k fun K39 hK39 => ?_
    refine wp_rs fun K40 hK40 => ?_
    refine s_val hF (x_fa0 fa24_2 rfl) (by decide) fun a hF => ?_
    refine s_val hF (x_load rfl (m_load flat22 (m1.cell (j := 2) rfl))) (by decide) fun a hF => ?_
    refine s_val hF (x_len Try.underlying22 rfl) (by decide) fun a hF => ?_
    refine s_val hF (x_move rfl) (by decide) fun a hF => ?_
    refine s_end (hK40 _ _ ?_)
    refine wp_block ?_
    refine wp_up xs.length (fun i a w => ∃ v' o' zs, w.ownsRow w0.heap.size 24 3 v' zs.length (zs.flatMap lc) ∧ (∀ j, v'.ownBlock = some j → j = o') ∧ v'.ownBlock ≠ some b3 ∧ v'.ownBlock ≠ some b2 ∧ (w0.heap.size ≤ o' ∧ o' < w.heap.size ∧ (o' = b3 ∨ b3 < o')) ∧ PL w (fun k => w0.heap.size ≤ k ∧ k ≠ b2 ∧ k ≠ b3 ∧ k ≠ o' ∧ k < w.heap.size) zs (s.kids.take i) ∧ Blk w b3 24 [.int .i64 k, .int .i64 0, v'] ∧ Blk w b2 24 [.int .i64 0, .int .i64 0, .slice none 0 0] ∧ Below w0.heap.size w0 w ∧ Fs 37 a [(24, .int .i64 (i : Int)), (23, .int .i64 (xs.length : Int)), (22, .slice av xs.length cv), (2, .pointer (some ⟨b2, 0, none⟩)), (3, .pointer (some ⟨b3, 0, none⟩))]) ⟨_, b3, [], World.ownsRow_nil _ _ _ _, (fun j h => by cases h), (fun h => by cases h), (fun h => by cases h), by have := m3.lt; omega, by rw [List.take_zero]; exact PL.nil, m3, m2, hB, hF.sub _ rfl⟩ ?_
    have hbb : w0.heap.size ≤ b2 ∧ b2 < b3 := ⟨by omega, by omega⟩
    repeat clear hF
    clear hB m2 m3
    rintro i a w hi ⟨vv, o2, zs, hO, hat, hne, hne2, hlo, hP, mg, m2, hB, hF⟩ K' hK'
    have sB := hB.size
    have hgl := mg.lt
    obtain ⟨top, htop⟩ : ∃ h, h = w.heap.size := ⟨_, rfl⟩
    rw [← htop] at hP
    have hPl := hP.1
    rw [List.length_take] at hPl
    have h1vv := (Rd.own hO).one
    refine wp_rs fun K41 hK41 => ?_
    refine s_val hF (x_lss rfl rfl rfl) (by decide) fun a hF => ?_
    refine s_end (hK41 _ _ ?_)
    refine wp_seq_k fun K42 hK42 => ?_
    refine wp_iff hF rfl (fun hc25 => ?_) (fun hc25 => ?_)
    · obtain ⟨b, off, c, y, hve, hy, hrow⟩ := rd_row3 hR (i := i) (by omega)
      cases hve
      obtain ⟨p, hp⟩ : ∃ p, s.kids[i]? = some p := ⟨_, List.getElem?_eq_getElem (by omega)⟩
      have hps := SL.kids_size hp
      have hty := hk i y p hy hp
      have h1y := hty.one1
      refine wp_skip (hK42 _ _ ?_)
      refine wp_seq_k fun K43 hK43 => ?_
      refine wp_block ?_
      refine wp_rs fun K44 hK44 => ?_
      refine s_val hF (x_ixa rfl rfl (m_ixsK i Try.underlying22 el22.size rfl (by omega))) (by decide) fun a hF => ?_
      refine s_val hF (x_ldA wide24 (hrow _ hB) rfl rfl) (by decide) fun a hF => ?_
      refine s_alloc hF (by decide) zero24 fun w106 b5 a eb5 m5 B107 zb5 hF => ?_
      have sB107 := B107.size
      have hB := hB.trans (B107.mono hB.size)
      have m2 := m2.old B107
      have mg := mg.old B107
      have hO := own_below hO B107
      have hP := hP.below B107
      refine s_putW hF rfl rfl (size_wide wide24) m5 rfl (one_lc h1y) fun w108 m5 o109 => ?_
      have so109 := o109.size
      have hB := hB.trans (o109.below (by omega))
      have m2 := m2.only o109 (by omega)
      have mg := mg.only o109 (by omega)
      have hO := own_only hO o109 (fun e => by have := hat _ e; omega)
      have hP := hP.only o109 (fun k (hk : w0.heap.size ≤ k ∧ k ≠ b2 ∧ k ≠ b3 ∧ k ≠ o2 ∧ k < top) => by omega)
      refine s_end (hK44 _ _ ?_)
      refine dk2_one (b3) (o2) (ops := regOps Try.f65 12) (N := 8) (by kernel_rfl) wide_orders (by kernel_rfl) fun w110 hw110 B111 hS K45 hK45 => ?_
      have zw110 : w110.heap.size = w108.heap.size := by rw [hw110]
      have sB111 := B111.size
      have hB := hB.trans (B111.mono hB.size)
      have m2 := m2.old B111
      have mg := mg.old B111
      have hO := own_below hO B111
      have hP := hP.below B111
      have m5 := m5.old B111
      have m2_d := m2
      have mg_d := mg
      have hO_d := hO
      have hP_d := hP
      have m5_d := m5
      have hB_d := hB
      refine d_val 0 28 (op := (Go.Op.fieldAddr 24 (Go.Operand.tmp 3) 2)) hF hS (by kernel_rfl) (fun W hW => x_fa0 fa24_2 rfl) (by kernel_rfl) (by decide) fun a hF => ?_
      refine d_val 2 30 (op := (Go.Op.load 24 (Go.Operand.tmp 5))) hF hS (by kernel_rfl) (fun W hW => x_ldW wide24 (m5_d.k2 hW (by omega)) rfl rfl) (by kernel_rfl) (by decide) fun a hF => ?_
      refine d_two 1 3 (by kernel_rfl) ?_ ?_
      · refine d_op 1 (some 29) (Go.Op.load 22 (Go.Operand.tmp 28)) (by kernel_rfl) fun ty pos af => ?_
        refine s_val hF (x_load rfl (m_load flat22 (mg.cell (j := 2) rfl))) (by decide) fun a hF => ?_
        refine s_end ⟨hS, ?_⟩
        refine d_one 3 (some 31) (Go.Op.call (Go.Call.mk (Go.Callee.value (Go.Operand.func 65)) #[(Go.Operand.tmp 30)] #[24])) (by kernel_rfl) (by kernel_rfl) fun ty pos af => ?_
        refine s_callR (R := fun u w' => ∃ z, u = lv z ∧ RSn w' (fun k => w110.heap.size ≤ k) p z) [_] hF (enters_of Try.func65 (by kernel_rfl) rfl) rfl (by decide) (ih p y w110 (by omega) (RS.below hB hty)) ?_
        rintro _ w112 a ⟨z, rfl, hz0⟩ B113 hF
        have sB113 := B113.size
        have hB := hB.trans (B113.mono hB.size)
        have m2 := m2.old B113
        have mg := mg.old B113
        have hO := own_below hO B113
        have hP := hP.below B113
        have m5 := m5.old B113
        have hS := hS.below B113
        have hz := hz0.valid
        clear hz0
        have h1z := hz.rs.one1
        refine s_end ⟨hS, ?_⟩
        refine d_one 4 (some 32) (Go.Op.buildSlice 22 1 #[(0, (Go.Operand.tmp 31))]) (by kernel_rfl) (by kernel_rfl) fun ty pos af => ?_
        refine s_litG [lv z] el22 hF (by decide) rfl (by simp [Value.cells, lc]) rfl (by decide) (by decide) fun w114 bl a ebl ml B115 zbl hF => ?_
        have sB115 := B115.size
        have hB := hB.trans (B115.mono hB.size)
        have m2 := m2.old B115
        have mg := mg.old B115
        have hO := own_below hO B115
        have hP := hP.below B115
        have m5 := m5.old B115
        have hz := hz.below B115
        have hS := hS.below B115
        have ml : Blk w114 bl 24 (lc z) := by simpa [Value.cells] using ml
        refine s_end ⟨hS, ?_⟩
        refine d_one 5 (some 33) (Go.Op.call (Go.Call.mk (Go.Callee.builtin Go.Builtin.append) #[(Go.Operand.tmp 29), (Go.Operand.tmp 32)] #[22, 22])) (by kernel_rfl) (by kernel_rfl) fun ty pos af => ?_
        refine s_app1 (o := o2) el22 hF (by decide) rfl rfl hO ml rfl (one_lc h1z) hat (by omega) (by omega) (by decide) (by omega) fun v3 w116 a o3 hOn hOatn how hsrc k117 hkeep hF => ?_
        have sk117 := k117.size
        have hB := k117.under hB (by omega)
        have m2 : Blk w116 b2 _ _ := (hkeep _ m2.lt hne2).trans m2
        have mg : Blk w116 b3 _ _ := (hkeep _ mg.lt hne).trans mg
        have hP := hP.k2 k117 (fun k (hk : w0.heap.size ≤ k ∧ k ≠ b2 ∧ k ≠ b3 ∧ k ≠ o2 ∧ k < top) => by omega)
        have m5 := m5.k2 k117 (by omega)
        have hz := hz.k2 k117 (fun k (hk : w110.heap.size ≤ k ∧ k < w112.heap.size) => by omega)
        have ml := ml.k2 k117 (by omega)
        have hS := hS.trans k117 (by omega)
        have hO := hOn
        have hO_at := hOatn
        have hneg : v3.ownBlock ≠ some b3 := fun h => by rcases hsrc b3 h with h | h; exact hne h; omega
        have hneg2 : v3.ownBlock ≠ some b2 := fun h => by rcases hsrc b2 h with h | h; exact hne2 h; omega
        refine s_end ⟨hS, ?_⟩
        refine d_val 6 34 (op := (Go.Op.fieldAddr 24 (Go.Operand.tmp 3) 2)) hF hS (by kernel_rfl) (fun W hW => x_fa0 fa24_2 rfl) (by kernel_rfl) (by decide) fun a hF => ?_
        refine d_one 7 none (Go.Op.store 22 (Go.Operand.tmp 34) (Go.Operand.tmp 33)) (by kernel_rfl) (by kernel_rfl) fun ty pos af => ?_
        refine s_put hF rfl rfl flat22 mg (by first | (simp; done) | (show _ < 3; decide)) (Rd.own hO).one fun w118 mg o119 => ?_
        have so119 := o119.size
        have hB := hB.trans (o119.below (by omega))
        have m2 := m2.only o119 (by omega)
        have hO := own_only hO o119 (hneg)
        have hP := hP.only o119 (fun k (hk : w0.heap.size ≤ k ∧ k ≠ b2 ∧ k ≠ b3 ∧ k ≠ o2 ∧ k < top) => by omega)
        have m5 := m5.only o119 (by omega)
        have hz := hz.only o119 (fun k (hk : w110.heap.size ≤ k ∧ k < w112.heap.size) => by omega)
        have ml := ml.only o119 (by omega)
        have hS := hS.only o119 (by omega)
        refine s_end ⟨hS, ?_⟩
        refine d_end (by kernel_rfl) (hK45 _ _ ?_)
        refine hK43 _ _ ?_
        refine wp_region_lit ?_
        refine s_val hF (x_addn (i + 1) (by omega) (by omega) rfl rfl) (by decide) fun a hF => ?_
        refine s_val hF (x_move rfl) (by decide) fun a hF => ?_
        have hL2 : s.kids.take (i + 1) = s.kids.take i ++ [p] := by rw [List.take_add_one, hp]; rfl
        refine s_end (hK' _ _ (by omega) ⟨v3, o3, zs ++ [z], by rw [fm3_app]; simpa using hO, hO_at, hneg, hneg2, by omega, by rw [hL2]; exact (hP.mono (fun k (hk : w0.heap.size ≤ k ∧ k ≠ b2 ∧ k ≠ b3 ∧ k ≠ o2 ∧ k < top) => (by omega : _ ∧ _ ∧ _ ∧ _ ∧ _))).snoc (hz.mono (fun k (hk : w110.heap.size ≤ k ∧ k < w112.heap.size) => (by omega : _ ∧ _ ∧ _ ∧ _ ∧ _))), mg, m2, hB, hF.sub _ rfl⟩)
      · refine d_op 3 (some 31) (Go.Op.call (Go.Call.mk (Go.Callee.value (Go.Operand.func 65)) #[(Go.Operand.tmp 30)] #[24])) (by kernel_rfl) fun ty pos af => ?_
        refine s_callR (R := fun u w' => ∃ z, u = lv z ∧ RSn w' (fun k => w110.heap.size ≤ k) p z) [_] hF (enters_of Try.func65 (by kernel_rfl) rfl) rfl (by decide) (ih p y w110 (by omega) (RS.below hB hty)) ?_
        rintro _ w120 a ⟨z, rfl, hz0⟩ B121 hF
        have sB121 := B121.size
        have hB := hB.trans (B121.mono hB.size)
        have m2 := m2.old B121
        have mg := mg.old B121
        have hO := own_below hO B121
        have hP := hP.below B121
        have m5 := m5.old B121
        have hS := hS.below B121
        have hz := hz0.valid
        clear hz0
        have h1z := hz.rs.one1
        refine s_end ⟨hS, ?_⟩
        refine d_two 1 4 (by kernel_rfl) ?_ ?_
        · refine d_op 1 (some 29) (Go.Op.load 22 (Go.Operand.tmp 28)) (by kernel_rfl) fun ty pos af => ?_
          refine s_val hF (x_load rfl (m_load flat22 (mg.cell (j := 2) rfl))) (by decide) fun a hF => ?_
          refine s_end ⟨hS, ?_⟩
          refine d_one 4 (some 32) (Go.Op.buildSlice 22 1 #[(0, (Go.Operand.tmp 31))]) (by kernel_rfl) (by kernel_rfl) fun ty pos af => ?_
          refine s_litG [lv z] el22 hF (by decide) rfl (by simp [Value.cells, lc]) rfl (by decide) (by decide) fun w122 bl a ebl ml B123 zbl hF => ?_
          have sB123 := B123.size
          have hB := hB.trans (B123.mono hB.size)
          have m2 := m2.old B123
          have mg := mg.old B123
          have hO := own_below hO B123
          have hP := hP.below B123
          have m5 := m5.old B123
          have hz := hz.below B123
          have hS := hS.below B123
          have ml : Blk w122 bl 24 (lc z) := by simpa [Value.cells] using ml
          refine s_end ⟨hS, ?_⟩
          refine d_one 5 (some 33) (Go.Op.call (Go.Call.mk (Go.Callee.builtin Go.Builtin.append) #[(Go.Operand.tmp 29), (Go.Operand.tmp 32)] #[22, 22])) (by kernel_rfl) (by kernel_rfl) fun ty pos af => ?_
          refine s_app1 (o := o2) el22 hF (by decide) rfl rfl hO ml rfl (one_lc h1z) hat (by omega) (by omega) (by decide) (by omega) fun v3 w124 a o3 hOn hOatn how hsrc k125 hkeep hF => ?_
          have sk125 := k125.size
          have hB := k125.under hB (by omega)
          have m2 : Blk w124 b2 _ _ := (hkeep _ m2.lt hne2).trans m2
          have mg : Blk w124 b3 _ _ := (hkeep _ mg.lt hne).trans mg
          have hP := hP.k2 k125 (fun k (hk : w0.heap.size ≤ k ∧ k ≠ b2 ∧ k ≠ b3 ∧ k ≠ o2 ∧ k < top) => by omega)
          have m5 := m5.k2 k125 (by omega)
          have hz := hz.k2 k125 (fun k (hk : w110.heap.size ≤ k ∧ k < w120.heap.size) => by omega)
          have ml := ml.k2 k125 (by omega)
          have hS := hS.trans k125 (by omega)
          have hO := hOn
          have hO_at := hOatn
          have hneg : v3.ownBlock ≠ some b3 := fun h => by rcases hsrc b3 h with h | h; exact hne h; omega
          have hneg2 : v3.ownBlock ≠ some b2 := fun h => by rcases hsrc b2 h with h | h; exact hne2 h; omega
          refine s_end ⟨hS, ?_⟩
          refine d_val 6 34 (op := (Go.Op.fieldAddr 24 (Go.Operand.tmp 3) 2)) hF hS (by kernel_rfl) (fun W hW => x_fa0 fa24_2 rfl) (by kernel_rfl) (by decide) fun a hF => ?_
          refine d_one 7 none (Go.Op.store 22 (Go.Operand.tmp 34) (Go.Operand.tmp 33)) (by kernel_rfl) (by kernel_rfl) fun ty pos af => ?_
          refine s_put hF rfl rfl flat22 mg (by first | (simp; done) | (show _ < 3; decide)) (Rd.own hO).one fun w126 mg o127 => ?_
          have so127 := o127.size
          have hB := hB.trans (o127.below (by omega))
          have m2 := m2.only o127 (by omega)
          have hO := own_only hO o127 (hneg)
          have hP := hP.only o127 (fun k (hk : w0.heap.size ≤ k ∧ k ≠ b2 ∧ k ≠ b3 ∧ k ≠ o2 ∧ k < top) => by omega)
          have m5 := m5.only o127 (by omega)
          have hz := hz.only o127 (fun k (hk : w110.heap.size ≤ k ∧ k < w120.heap.size) => by omega)
          have ml := ml.only o127 (by omega)
          have hS := hS.only o127 (by omega)
          refine s_end ⟨hS, ?_⟩
          refine d_end (by kernel_rfl) (hK45 _ _ ?_)
          refine hK43 _ _ ?_
          refine wp_region_lit ?_
          refine s_val hF (x_addn (i + 1) (by omega) (by omega) rfl rfl) (by decide) fun a hF => ?_
          refine s_val hF (x_move rfl) (by decide) fun a hF => ?_
          have hL2 : s.kids.take (i + 1) = s.kids.take i ++ [p] := by rw [List.take_add_one, hp]; rfl
          refine s_end (hK' _ _ (by omega) ⟨v3, o3, zs ++ [z], by rw [fm3_app]; simpa using hO, hO_at, hneg, hneg2, by omega, by rw [hL2]; exact (hP.mono (fun k (hk : w0.heap.size ≤ k ∧ k ≠ b2 ∧ k ≠ b3 ∧ k ≠ o2 ∧ k < top) => (by omega : _ ∧ _ ∧ _ ∧ _ ∧ _))).snoc (hz.mono (fun k (hk : w110.heap.size ≤ k ∧ k < w120.heap.size) => (by omega : _ ∧ _ ∧ _ ∧ _ ∧ _))), mg, m2, hB, hF.sub _ rfl⟩)
        · refine d_op 4 (some 32) (Go.Op.buildSlice 22 1 #[(0, (Go.Operand.tmp 31))]) (by kernel_rfl) fun ty pos af => ?_
          refine s_litG [lv z] el22 hF (by decide) rfl (by simp [Value.cells, lc]) rfl (by decide) (by decide) fun w128 bl a ebl ml B129 zbl hF => ?_
          have sB129 := B129.size
          have hB := hB.trans (B129.mono hB.size)
          have m2 := m2.old B129
          have mg := mg.old B129
          have hO := own_below hO B129
          have hP := hP.below B129
          have m5 := m5.old B129
          have hz := hz.below B129
          have hS := hS.below B129
          have ml : Blk w128 bl 24 (lc z) := by simpa [Value.cells] using ml
          refine s_end ⟨hS, ?_⟩
          refine d_one 1 (some 29) (Go.Op.load 22 (Go.Operand.tmp 28)) (by kernel_rfl) (by kernel_rfl) fun ty pos af => ?_
          refine s_val hF (x_load rfl (m_load flat22 (mg.cell (j := 2) rfl))) (by decide) fun a hF => ?_
          refine s_end ⟨hS, ?_⟩
          refine d_one 5 (some 33) (Go.Op.call (Go.Call.mk (Go.Callee.builtin Go.Builtin.append) #[(Go.Operand.tmp 29), (Go.Operand.tmp 32)] #[22, 22])) (by kernel_rfl) (by kernel_rfl) fun ty pos af => ?_
          refine s_app1 (o := o2) el22 hF (by decide) rfl rfl hO ml rfl (one_lc h1z) hat (by omega) (by omega) (by decide) (by omega) fun v3 w130 a o3 hOn hOatn how hsrc k131 hkeep hF => ?_
          have sk131 := k131.size
          have hB := k131.under hB (by omega)
          have m2 : Blk w130 b2 _ _ := (hkeep _ m2.lt hne2).trans m2
          have mg : Blk w130 b3 _ _ := (hkeep _ mg.lt hne).trans mg
          have hP := hP.k2 k131 (fun k (hk : w0.heap.size ≤ k ∧ k ≠ b2 ∧ k ≠ b3 ∧ k ≠ o2 ∧ k < top) => by omega)
          have m5 := m5.k2 k131 (by omega)
          have hz := hz.k2 k131 (fun k (hk : w110.heap.size ≤ k ∧ k < w120.heap.size) => by omega)
          have ml := ml.k2 k131 (by omega)
          have hS := hS.trans k131 (by omega)
          have hO := hOn
          have hO_at := hOatn
          have hneg : v3.ownBlock ≠ some b3 := fun h => by rcases hsrc b3 h with h | h; exact hne h; omega
          have hneg2 : v3.ownBlock ≠ some b2 := fun h => by rcases hsrc b2 h with h | h; exact hne2 h; omega
          refine s_end ⟨hS, ?_⟩
          refine d_val 6 34 (op := (Go.Op.fieldAddr 24 (Go.Operand.tmp 3) 2)) hF hS (by kernel_rfl) (fun W hW => x_fa0 fa24_2 rfl) (by kernel_rfl) (by decide) fun a hF => ?_
          refine d_one 7 none (Go.Op.store 22 (Go.Operand.tmp 34) (Go.Operand.tmp 33)) (by kernel_rfl) (by kernel_rfl) fun ty pos af => ?_
          refine s_put hF rfl rfl flat22 mg (by first | (simp; done) | (show _ < 3; decide)) (Rd.own hO).one fun w132 mg o133 => ?_
          have so133 := o133.size
          have hB := hB.trans (o133.below (by omega))
          have m2 := m2.only o133 (by omega)
          have hO := own_only hO o133 (hneg)
          have hP := hP.only o133 (fun k (hk : w0.heap.size ≤ k ∧ k ≠ b2 ∧ k ≠ b3 ∧ k ≠ o2 ∧ k < top) => by omega)
          have m5 := m5.only o133 (by omega)
          have hz := hz.only o133 (fun k (hk : w110.heap.size ≤ k ∧ k < w120.heap.size) => by omega)
          have ml := ml.only o133 (by omega)
          have hS := hS.only o133 (by omega)
          refine s_end ⟨hS, ?_⟩
          refine d_end (by kernel_rfl) (hK45 _ _ ?_)
          refine hK43 _ _ ?_
          refine wp_region_lit ?_
          refine s_val hF (x_addn (i + 1) (by omega) (by omega) rfl rfl) (by decide) fun a hF => ?_
          refine s_val hF (x_move rfl) (by decide) fun a hF => ?_
          have hL2 : s.kids.take (i + 1) = s.kids.take i ++ [p] := by rw [List.take_add_one, hp]; rfl
          refine s_end (hK' _ _ (by omega) ⟨v3, o3, zs ++ [z], by rw [fm3_app]; simpa using hO, hO_at, hneg, hneg2, by omega, by rw [hL2]; exact (hP.mono (fun k (hk : w0.heap.size ≤ k ∧ k ≠ b2 ∧ k ≠ b3 ∧ k ≠ o2 ∧ k < top) => (by omega : _ ∧ _ ∧ _ ∧ _ ∧ _))).snoc (hz.mono (fun k (hk : w110.heap.size ≤ k ∧ k < w120.heap.size) => (by omega : _ ∧ _ ∧ _ ∧ _ ∧ _))), mg, m2, hB, hF.sub _ rfl⟩)
    · refine wp_exit (hK39 _ _ ?_)
      refine wp_rs fun K46 hK46 => ?_
      refine s_val hF (x_ldW wide24 mg rfl rfl) (by decide) fun a hF => ?_
      refine s_putW hF rfl rfl (size_wide wide24) m2 rfl (one3 h1vv) fun w134 m2 o135 => ?_
      have so135 := o135.size
      have hB := hB.trans (o135.below (by omega))
      have mg := mg.only o135 (by omega)
      have hO := own_only hO o135 (hne2)
      have hP := hP.only o135 (fun k (hk : w0.heap.size ≤ k ∧ k ≠ b2 ∧ k ≠ b3 ∧ k ≠ o2 ∧ k < top) => by omega)
      refine s_end (hK46 _ _ ?_)
      have hall : s.kids.take i = s.kids := List.take_of_length_le (by omega)
      rw [hall] at hP
      refine wp_ret (res_cell hF rfl rfl m2 wide24 ⟨_, rfl, ⟨(k, 0, vv), rfl, by rw [e1]; exact rsn_of (fun h => absurd e1.symm (by omega)) (Rd.own hO) (hP.mono (fun k (hk : w0.heap.size ≤ k ∧ k ≠ b2 ∧ k ≠ b3 ∧ k ≠ o2 ∧ k < top) => (by omega : _ ≤ _))) (fun j h => (hO.lt j h).1)⟩, hB⟩)

set_option maxRecDepth 100000 in
set_option maxHeartbeats 1600000 in
theorem own53 (s : SL) (x : C3) (w0 : World) (hS : RS w0 s x) (hs : s.size ≤ 10000) (hd : s.dep ≤ 10000) : Calls Try.prog 53 #[lv x] w0 fun e w' => ∃ u, e = .returned u ∧ (∃ z, u = lv z ∧ RSn w' (fun k => w0.heap.size ≤ k) s z) ∧ Below w0.heap.size w0 w' := by
  have hB := Below.refl w0.heap.size w0
  have sB := hB.size
  refine calls_fs 10 [(0, lv x)] Try.func53 rfl rfl rfl rfl rfl fun a hF => ?_
  refine wp_rs fun K1 hK1 => ?_
  refine s_box (lc x) hF (by decide) rfl rfl fun w2 b1 a eb1 m1 B3 zb1 hF => ?_
  have sB3 := B3.size
  have hB := hB.trans (B3.mono hB.size)
  refine s_alloc hF (by decide) zero24 fun w4 b2 a eb2 m2 B5 zb2 hF => ?_
  have sB5 := B5.size
  have hB := hB.trans (B5.mono hB.size)
  have m1 := m1.old B5
  refine s_end (hK1 _ _ ?_)
  refine wp_rs fun K2 hK2 => ?_
  refine s_alloc1 hF (by decide) zero3 rfl fun w6 b3 a eb3 m3 B7 zb3 hF => ?_
  have sB7 := B7.size
  have hB := hB.trans (B7.mono hB.size)
  have m1 := m1.old B7
  have m2 := m2.old B7
  refine s_put hF rfl rfl flat3 m3 (by first | (simp; done) | (show _ < 3; decide)) rfl fun w8 m3 o9 => ?_
  have so9 := o9.size
  have hB := hB.trans (o9.below (by omega))
  have m1 := m1.only o9 (by omega)
  have m2 := m2.only o9 (by omega)
  refine s_end (hK2 _ _ ?_)
  refine wp_seq_k fun K3 hK3 => ?_
  refine wp_rs fun K4 hK4 => ?_
  refine s_val hF (x_ldW wide24 m1 rfl rfl) (by decide) fun a hF => ?_
  refine s_call (R := fun u w' => (u = .bool true ∧ Blk w' b3 3 [.int .i64 ((53687091 - s.size : Nat) : Int)]) ∧ Ktw b3 b3 w8 w') hF [_, _, _] (enters_of Try.func64 (by kernel_rfl) rfl) rfl (by decide) (fits64 w0 b3 (by omega) (s.size + 1) s x (by omega) hS 65536 53687091 w8 (by omega) (by omega) (by omega) (by omega) hB m3) ?_
  rintro _ w10 a ⟨⟨rfl, m3⟩, k11⟩ hF
  have sk11 := k11.size
  have hB := k11.under hB (by omega)
  have m1 := m1.k2 k11 (by omega)
  have m2 := m2.k2 k11 (by omega)
  refine s_val hF (x_not rfl) (by decide) fun a hF => ?_
  refine s_end (hK4 _ _ ?_)
  refine wp_if hF rfl ?_
  refine wp_skip (hK3 _ _ ?_)
  refine wp_rs fun K5 hK5 => ?_
  refine s_val hF (x_ldW wide24 m1 rfl rfl) (by decide) fun a hF => ?_
  refine s_callR (R := fun u w' => ∃ z, u = lv z ∧ RSn w' (fun k => w10.heap.size ≤ k) s z) [_] hF (enters_of Try.func65 (by kernel_rfl) rfl) rfl (by decide) (copied65 (s.size + 1) s x w10 (by omega) (RS.below hB hS)) ?_
  rintro _ w12 a ⟨z, rfl, hz⟩ B13 hF
  have sB13 := B13.size
  have hB := hB.trans (B13.mono hB.size)
  have m1 := m1.old B13
  have m2 := m2.old B13
  have m3 := m3.old B13
  have h1z := hz.rs.one1
  refine s_putW hF rfl rfl (size_wide wide24) m2 rfl (one_lc h1z) fun w14 m2 o15 => ?_
  have so15 := o15.size
  have hB := hB.trans (o15.below (by omega))
  have m1 := m1.only o15 (by omega)
  have m3 := m3.only o15 (by omega)
  have hz := hz.only o15 (fun k (hk : w10.heap.size ≤ k) => by omega)
  refine s_end (hK5 _ _ ?_)
  refine wp_ret (res_cell hF rfl rfl m2 wide24 ⟨_, rfl, ⟨z, rfl, hz.mono (fun k (hk : w10.heap.size ≤ k) => (by omega : _ ≤ _))⟩, hB⟩)

set_option maxRecDepth 100000 in
set_option maxHeartbeats 1600000 in
theorem Max32 (s t : SL) (x y : C3) (w0 : World) (hSx : RS w0 s x) (hTy : RS w0 t y) (hs : s.size ≤ 10000) (hd : s.dep ≤ 10000) (ht : t.size ≤ 10000) (hd2 : t.dep ≤ 10000) : Calls Try.prog 32 #[lv x, lv y] w0 fun e w' => ∃ u, e = .returned u ∧ (∃ z, u = lv z ∧ RSn w' (fun k => w0.heap.size ≤ k) (.mx s t) z) ∧ Below w0.heap.size w0 w' := by
  have hB := Below.refl w0.heap.size w0
  have sB := hB.size
  refine calls_fs 10 [(0, lv x), (1, lv y)] Try.func32 rfl rfl rfl rfl rfl fun a hF => ?_
  refine wp_rs fun K1 hK1 => ?_
  refine s_box (lc x) hF (by decide) rfl rfl fun w2 b2 a eb2 m2 B3 zb2 hF => ?_
  have sB3 := B3.size
  have hB := hB.trans (B3.mono hB.size)
  refine s_box (lc y) hF (by decide) rfl rfl fun w4 b3 a eb3 m3 B5 zb3 hF => ?_
  have sB5 := B5.size
  have hB := hB.trans (B5.mono hB.size)
  have m2 := m2.old B5
  refine s_alloc hF (by decide) zero24 fun w6 b4 a eb4 m4 B7 zb4 hF => ?_
  have sB7 := B7.size
  have hB := hB.trans (B7.mono hB.size)
  have m2 := m2.old B7
  have m3 := m3.old B7
  refine s_end (hK1 _ _ ?_)
  refine dk2_seq (b4) (b4) (ops := regOps Try.f32 1) (N := 6) (by kernel_rfl) wide_orders (by kernel_rfl) fun w8 hw8 B9 hS K2 hK2 => ?_
  have zw8 : w8.heap.size = w6.heap.size := by rw [hw8]
  have sB9 := B9.size
  have hB := hB.trans (B9.mono hB.size)
  have m2 := m2.old B9
  have m3 := m3.old B9
  have m4 := m4.old B9
  have m2_d := m2
  have m3_d := m3
  have m4_d := m4
  have hB_d := hB
  refine d_val 0 5 (op := (Go.Op.load 24 (Go.Operand.tmp 2))) hF hS (by kernel_rfl) (fun W hW => x_ldW wide24 (m2_d.k2 hW (by omega)) rfl rfl) (by kernel_rfl) (by decide) fun a hF => ?_
  refine d_val 2 7 (op := (Go.Op.load 24 (Go.Operand.tmp 3))) hF hS (by kernel_rfl) (fun W hW => x_ldW wide24 (m3_d.k2 hW (by omega)) rfl rfl) (by kernel_rfl) (by decide) fun a hF => ?_
  refine d_one 1 (some 6) (Go.Op.call (Go.Call.mk (Go.Callee.value (Go.Operand.func 53)) #[(Go.Operand.tmp 5)] #[24])) (by kernel_rfl) (by kernel_rfl) fun ty pos af => ?_
  refine s_callR (R := fun u w' => ∃ z, u = lv z ∧ RSn w' (fun k => w8.heap.size ≤ k) s z) [_] hF (enters_of Try.func53 (by kernel_rfl) rfl) rfl (by decide) (own53 s x w8 (RS.below hB hSx) hs hd) ?_
  rintro _ w10 a ⟨z1, rfl, hz1⟩ B11 hF
  have sB11 := B11.size
  have hB := hB.trans (B11.mono hB.size)
  have m2 := m2.old B11
  have m3 := m3.old B11
  have m4 := m4.old B11
  have hS := hS.below B11
  refine s_end ⟨hS, ?_⟩
  refine d_one 3 (some 8) (Go.Op.call (Go.Call.mk (Go.Callee.value (Go.Operand.func 53)) #[(Go.Operand.tmp 7)] #[24])) (by kernel_rfl) (by kernel_rfl) fun ty pos af => ?_
  refine s_callR (R := fun u w' => ∃ z, u = lv z ∧ RSn w' (fun k => w10.heap.size ≤ k) t z) [_] hF (enters_of Try.func53 (by kernel_rfl) rfl) rfl (by decide) (own53 t y w10 (RS.below hB hTy) ht hd2) ?_
  rintro _ w12 a ⟨z2, rfl, hz2⟩ B13 hF
  have sB13 := B13.size
  have hB := hB.trans (B13.mono hB.size)
  have m2 := m2.old B13
  have m3 := m3.old B13
  have m4 := m4.old B13
  have hz1 := hz1.below B13
  have hS := hS.below B13
  refine s_end ⟨hS, ?_⟩
  refine d_one 4 (some 9) (Go.Op.call (Go.Call.mk (Go.Callee.value (Go.Operand.func 52)) #[(Go.Operand.tmp 6), (Go.Operand.tmp 8)] #[24, 24])) (by kernel_rfl) (by kernel_rfl) fun ty pos af => ?_
  have hbz := m4.lt
  refine s_callR (R := fun v w' => ∃ z', v = lv z' ∧ RSn w' (fun k => w8.heap.size ≤ k ∨ w12.heap.size ≤ k) (.mx s t) z') [_, _] hF (enters_of Try.func52 (by kernel_rfl) rfl) rfl (by decide) (join52n (fun k => w8.heap.size ≤ k) s t z1 z2 w12 hz1 (hz2.mono (fun k (hk : w10.heap.size ≤ k) => (by omega : _ ≤ _)))) ?_
  rintro _ w14 a ⟨z3, rfl, hz3⟩ B15 hF
  have sB15 := B15.size
  have hB := hB.trans (B15.mono hB.size)
  have m2 := m2.old B15
  have m3 := m3.old B15
  have m4 := m4.old B15
  have hz1 := hz1.below B15
  have hz2 := hz2.below B15
  have hS := hS.below B15
  have h1z3 := hz3.rs.one1
  refine s_end ⟨hS, ?_⟩
  refine d_one 5 none (Go.Op.store 24 (Go.Operand.tmp 4) (Go.Operand.tmp 9)) (by kernel_rfl) (by kernel_rfl) fun ty pos af => ?_
  refine s_putW hF rfl rfl (size_wide wide24) m4 rfl (one_lc h1z3) fun w16 m4 o17 => ?_
  have so17 := o17.size
  have hB := hB.trans (o17.below (by omega))
  have m2 := m2.only o17 (by omega)
  have m3 := m3.only o17 (by omega)
  have hz3 := hz3.only o17 (fun k (hk : w8.heap.size ≤ k ∨ w12.heap.size ≤ k) => by omega)
  have hS := hS.only o17 (by omega)
  refine s_end ⟨hS, ?_⟩
  refine d_end (by kernel_rfl) (hK2 _ _ ?_)
  refine wp_ret (res_cell hF rfl rfl m4 wide24 ⟨_, rfl, ⟨z3, rfl, hz3.mono (fun k (hk : w8.heap.size ≤ k ∨ w12.heap.size ≤ k) => (by omega : _ ≤ _))⟩, hB⟩)

/-- n more than s. -/
def plusS (n : Nat) : SL → SL
  | .succ m a => .succ (cut (n + m)).toNat a
  | s => .succ n s

set_option maxRecDepth 100000 in
set_option maxHeartbeats 1600000 in
theorem Plus33 (n : Nat) (s : SL) (x : C3) (w0 : World) (hn : 1 ≤ n) (hn1 : n ≤ 10000) (hS : RS w0 s x) (hf : s.few) (hs : s.size ≤ 10000) (hd : s.dep ≤ 10000) : Calls Try.prog 33 #[.int .i64 (n : Int), lv x] w0 fun e w' => ∃ u, e = .returned u ∧ (∃ z, u = lv z ∧ RSn w' (fun k => w0.heap.size ≤ k) (plusS n s) z) ∧ Below w0.heap.size w0 w' := by
  have hB := Below.refl w0.heap.size w0
  have sB := hB.size
  refine calls_fs 22 [(0, .int .i64 (n : Int)), (1, lv x)] Try.func33 rfl rfl rfl rfl rfl fun a hF => ?_
  refine wp_rs fun K1 hK1 => ?_
  refine s_box (lc x) hF (by decide) rfl rfl fun w2 b3 a eb3 m3 B3 zb3 hF => ?_
  have sB3 := B3.size
  have hB := hB.trans (B3.mono hB.size)
  refine s_alloc hF (by decide) zero24 fun w4 b4 a eb4 m4 B5 zb4 hF => ?_
  have sB5 := B5.size
  have hB := hB.trans (B5.mono hB.size)
  have m3 := m3.old B5
  refine s_end (hK1 _ _ ?_)
  refine wp_rs fun K2 hK2 => ?_
  refine s_val hF (x_ldW wide24 m3 rfl rfl) (by decide) fun a hF => ?_
  refine s_callR (R := fun u w' => ∃ z, u = lv z ∧ RSn w' (fun k => w4.heap.size ≤ k) s z) [_] hF (enters_of Try.func53 (by kernel_rfl) rfl) rfl (by decide) (own53 s x w4 (RS.below hB hS) hs hd) ?_
  rintro _ w6 a ⟨⟨kz, nz, vz⟩, rfl, hz⟩ B7 hF
  have sB7 := B7.size
  have hB := hB.trans (B7.mono hB.size)
  have m3 := m3.old B7
  have m4 := m4.old B7
  have h1z := hz.rs.one1
  obtain ⟨ez1, ez2⟩ := hz.rs.kd
  obtain ⟨y9, hy9⟩ : ∃ y9 : C3, y9 = (kz, nz, vz) := ⟨_, rfl⟩
  refine s_putW hF rfl rfl (size_wide wide24) m3 rfl (one_lc h1z) fun w8 m3 o9 => ?_
  have so9 := o9.size
  have hB := hB.trans (o9.below (by omega))
  have m4 := m4.only o9 (by omega)
  have hz := hz.only o9 (fun k (hk : w4.heap.size ≤ k) => by omega)
  refine s_end (hK2 _ _ ?_)
  refine wp_seq_k fun K3 hK3 => ?_
  refine wp_rs fun K4 hK4 => ?_
  refine s_val hF (x_move rfl) (by decide) fun a hF => ?_
  refine s_val hF (x_lss (b := false) (decide_eq_false (by omega)) rfl rfl) (by decide) fun a hF => ?_
  refine s_end (hK4 _ _ ?_)
  refine wp_if hF rfl ?_
  refine wp_skip (hK3 _ _ ?_)
  refine wp_seq_k fun K5 hK5 => ?_
  rcases (show kz = 3 ∨ kz ≠ 3 by omega) with hk3 | hk3
  · obtain ⟨mm, sa, rfl⟩ : ∃ mm sa, s = .succ mm sa := by cases s <;> simp [SL.kd] at ez1 <;> first | omega | exact ⟨_, _, rfl⟩
    have hnz : nz = (mm : Int) := ez2 (by omega)
    have hmm : mm ≤ 1099511627776 := hf.1
    refine wp_rs fun K7 hK7 => ?_
    refine s_val hF (x_fa0 fa24_0 rfl) (by decide) fun a hF => ?_
    refine s_val hF (x_load rfl (m_load flat3 (m3.cell (j := 0) rfl))) (by decide) fun a hF => ?_
    refine s_val hF (x_eql (b := true) (decide_eq_true (by omega)) rfl rfl) (by decide) fun a hF => ?_
    refine s_end (hK7 _ _ ?_)
    refine wp_if hF rfl ?_
    refine wp_rs fun K8 hK8 => ?_
    refine s_val hF (x_move rfl) (by decide) fun a hF => ?_
    refine s_val hF (x_fa0 fa24_1 rfl) (by decide) fun a hF => ?_
    refine s_val hF (x_load rfl (m_load flat3 (m3.cell (j := 1) rfl))) (by decide) fun a hF => ?_
    refine s_callS [.int .i64 (n : Int), .int .i64 nz] hF (enters_of Try.func54 (by kernel_rfl) rfl) rfl (by decide) (sum54 n nz (by omega) (by omega) (by omega) (by omega) _) fun a hF => ?_
    refine s_val hF (x_fa0 fa24_1 rfl) (by decide) fun a hF => ?_
    refine s_put hF rfl rfl flat3 m3 (by first | (simp; done) | (show _ < 3; decide)) rfl fun w10 m3 o11 => ?_
    have so11 := o11.size
    have hB := hB.trans (o11.below (by omega))
    have m4 := m4.only o11 (by omega)
    have hz := hz.only o11 (fun k (hk : w4.heap.size ≤ k) => by omega)
    refine s_end (hK8 _ _ ?_)
    refine wp_rs fun K9 hK9 => ?_
    refine s_val hF (x_ldW wide24 m3 rfl rfl) (by decide) fun a hF => ?_
    refine s_putW hF rfl rfl (size_wide wide24) m4 rfl (one3 h1z) fun w12 m4 o13 => ?_
    have so13 := o13.size
    have hB := hB.trans (o13.below (by omega))
    have m3 := m3.only o13 (by omega)
    have hz := hz.only o13 (fun k (hk : w4.heap.size ≤ k) => by omega)
    refine s_end (hK9 _ _ ?_)
    refine wp_ret (then_ret (res_cell hF rfl rfl m4 wide24 ⟨_, rfl, ⟨(kz, cut (n + nz), vz), rfl, ?_⟩, hB⟩))
    obtain ⟨g1, g2, y, g3, g4, g5⟩ := hz.mono (B := fun k => w0.heap.size ≤ k) (fun k (hk : w4.heap.size ≤ k) => (by omega : _ ≤ _))
    exact ⟨g1, by show cut (n + nz) = _; rw [hnz]; have := cut_nn (x := (n : Int) + mm) (by omega); omega, y, g3, g4, g5⟩
  · have hps : plusS n s = .succ n s := by cases s <;> first | rfl | (simp [SL.kd] at ez1; omega)
    refine wp_rs fun K10 hK10 => ?_
    refine s_val hF (x_fa0 fa24_0 rfl) (by decide) fun a hF => ?_
    refine s_val hF (x_load rfl (m_load flat3 (m3.cell (j := 0) rfl))) (by decide) fun a hF => ?_
    refine s_val hF (x_eql (b := false) (decide_eq_false (by omega)) rfl rfl) (by decide) fun a hF => ?_
    refine s_end (hK10 _ _ ?_)
    refine wp_if hF rfl ?_
    refine wp_skip (hK5 _ _ ?_)
    refine wp_rs fun K11 hK11 => ?_
    refine s_val hF (x_move rfl) (by decide) fun a hF => ?_
    refine s_val hF (x_ldW wide24 m3 rfl rfl) (by decide) fun a hF => ?_
    refine s_callR (R := fun v w' => ∃ z, v = lv z ∧ RSn w' (fun k => w4.heap.size ≤ k ∨ w8.heap.size ≤ k) (.succ n s) z) [_, _] hF (enters_of Try.func55 (by kernel_rfl) rfl) rfl (by decide) (succ55n (fun k => w4.heap.size ≤ k) n s (kz, nz, vz) w8 hz) ?_
    rintro _ w14 a ⟨z2, rfl, hz2⟩ B15 hF
    have sB15 := B15.size
    have hB := hB.trans (B15.mono hB.size)
    have m3 := m3.old B15
    have m4 := m4.old B15
    have hz := hz.below B15
    have h1z2 := hz2.rs.one1
    refine s_putW hF rfl rfl (size_wide wide24) m4 rfl (one_lc h1z2) fun w16 m4 o17 => ?_
    have so17 := o17.size
    have hB := hB.trans (o17.below (by omega))
    have m3 := m3.only o17 (by omega)
    have hz := hz.only o17 (fun k (hk : w4.heap.size ≤ k) => by omega)
    have hz2 := hz2.only o17 (fun k (hk : w4.heap.size ≤ k ∨ w8.heap.size ≤ k) => by omega)
    refine s_end (hK11 _ _ ?_)
    refine wp_ret (res_cell hF rfl rfl m4 wide24 ⟨_, rfl, ⟨z2, rfl, by rw [hps]; exact hz2.mono (fun k (hk : w4.heap.size ≤ k ∨ w8.heap.size ≤ k) => (by omega : _ ≤ _))⟩, hB⟩)

def awS : SL := .mx (.num 3) (.succ 1 (.var 0))
theorem awS_good : awS.good := by unfold SL.good awS; simp [SL.size, SL.dep, SL.nums]
theorem awS_nf : nfC awS = 3 ∧ nfK awS = [1] := by decide

set_option maxRecDepth 100000 in
set_option maxHeartbeats 1600000 in
theorem awake15 (w0 : World) : Calls Try.prog 15 #[] w0 fun e w' => e = .returned (.bool true) ∧ Below w0.heap.size w0 w' := by
  have hB := Below.refl w0.heap.size w0
  have sB := hB.size
  refine calls_fs (vs := []) 24 [] Try.func15 rfl rfl rfl rfl rfl fun a hF => ?_
  refine wp_rs fun K1 hK1 => ?_
  refine s_val hF (x_assign rfl) (by decide) fun a hF => ?_
  refine s_end (hK1 _ _ ?_)
  refine wp_rs fun K2 hK2 => ?_
  refine s_callB [_] hF (enters_of Try.func36 (by kernel_rfl) rfl) rfl (by decide) (num36 3 w0) fun w2 a B3 hF => ?_
  have sB3 := B3.size
  have hB := hB.trans (B3.mono hB.size)
  refine s_callB [_] hF (enters_of Try.func37 (by kernel_rfl) rfl) rfl (by decide) (var37 0 w2) fun w4 a B5 hF => ?_
  have sB5 := B5.size
  have hB := hB.trans (B5.mono hB.size)
  refine s_callR (R := fun u w' => ∃ z, u = lv z ∧ RSn w' (fun k => w4.heap.size ≤ k) (plusS 1 (.var 0)) z) [_, _] hF (enters_of Try.func33 (by kernel_rfl) rfl) rfl (by decide) (Plus33 1 (.var 0) (2, 0, .slice none 0 0) w4 (by decide) (by decide) ⟨rfl, rfl, Rd.nil _ _⟩ trivial (by decide) (by decide)) ?_
  rintro _ w6 a ⟨z1, rfl, hz1⟩ B7 hF
  have sB7 := B7.size
  have hB := hB.trans (B7.mono hB.size)
  refine s_callR (R := fun u w' => ∃ z, u = lv z ∧ RSn w' (fun k => w6.heap.size ≤ k) (.mx (.num 3) (.succ 1 (.var 0))) z) [_, _] hF (enters_of Try.func32 (by kernel_rfl) rfl) rfl (by decide) (Max32 (.num 3) (.succ 1 (.var 0)) (1, 3, .slice none 0 0) z1 w6 ⟨rfl, rfl, Rd.nil _ _⟩ hz1.rs (by decide) (by decide) (by decide) (by decide)) ?_
  rintro _ w8 a ⟨z2, rfl, hz2⟩ B9 hF
  have sB9 := B9.size
  have hB := hB.trans (B9.mono hB.size)
  obtain ⟨l2, hl2, _⟩ := RS.snd hz2.rs
  refine s_callR (R := fun v w' => ∃ c vk ks, v = .tuple #[.int .i64 c, vk] ∧ FF w8 z2 l2 w' c vk ks) [_] hF (enters_of Try.func16 (by kernel_rfl) rfl) rfl (by decide) (norm16 z2 l2 w8 hl2) ?_
  rintro _ w10 a ⟨c, vk, ks, rfl, hf⟩ B11 hF
  have sB11 := B11.size
  have hB := hB.trans (B11.mono hB.size)
  obtain ⟨rfl, rfl⟩ := hf.2.2 awS hz2.rs awS_good
  obtain ⟨hn1, hn2⟩ := awS_nf
  obtain ⟨hV, _⟩ := hf
  rw [hn2] at hV
  rw [hn1] at hF
  obtain ⟨b, off, cv, hve, hrow⟩ := rd_rowI hV (i := 0) (by decide)
  subst hve
  have hB0 := Below.refl w10.heap.size w10
  refine s_val hF (x_move rfl) (by decide) fun a hF => ?_
  refine s_val hF (x_ext rfl rfl) (by decide) fun a hF => ?_
  refine s_val hF (x_ext rfl rfl) (by decide) fun a hF => ?_
  refine s_val hF (x_assign rfl) (by decide) fun a hF => ?_
  refine s_val hF (x_assign rfl) (by decide) fun a hF => ?_
  refine s_end (hK2 _ _ ?_)
  refine wp_rs fun K3 hK3 => ?_
  refine s_val hF (x_move rfl) (by decide) fun a hF => ?_
  refine s_val hF (x_eql (b := true) rfl rfl rfl) (by decide) fun a hF => ?_
  refine s_val hF (x_move rfl) (by decide) fun a hF => ?_
  refine s_grd 13 hF rfl rfl rfl ?_
  refine s_val hF (x_move rfl) (by decide) fun a hF => ?_
  refine s_grd 13 hF rfl rfl rfl ?_
  refine s_val hF (x_len Try.underlying29 rfl) (by decide) fun a hF => ?_
  refine s_grd 13 hF rfl rfl rfl ?_
  refine s_val hF (x_eql (b := true) rfl rfl rfl) (by decide) fun a hF => ?_
  refine s_val hF (x_pick (b := true) rfl rfl) (by decide) fun a hF => ?_
  refine s_val hF (x_move rfl) (by decide) fun a hF => ?_
  refine s_grd 18 hF rfl rfl rfl ?_
  refine s_val hF (x_move rfl) (by decide) fun a hF => ?_
  refine s_grd 18 hF rfl rfl rfl ?_
  refine s_val hF (x_ixa rfl rfl (m_ixs 0 Try.underlying29 el29.size rfl (by decide))) (by decide) fun a hF => ?_
  refine s_grd 18 hF rfl rfl rfl ?_
  refine s_val hF (x_load rfl (m_load flat3 (hrow _ hB0))) (by decide) fun a hF => ?_
  refine s_grd 18 hF rfl rfl rfl ?_
  refine s_val hF (x_eql (b := true) rfl rfl rfl) (by decide) fun a hF => ?_
  refine s_val hF (x_pick (b := true) rfl rfl) (by decide) fun a hF => ?_
  refine s_val hF (x_assign rfl) (by decide) fun a hF => ?_
  refine s_end (hK3 _ _ ?_)
  refine wp_ret (res_slot hF rfl rfl ⟨rfl, hB⟩)
end Go.Proofs.Ytnnkggfhhkhnmaa
