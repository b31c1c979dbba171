/- Fold, Root, the reference's; awake; ChainLinks. -/
import Derived.Test.YtbmglinkfdoegaaDoorChain2
namespace Go.Proofs.YtbmglinkfdoegaaDoor
open Go.RowKit Go.Shelf
set_option linter.unusedVariables false
set_option linter.unusedSimpArgs false

theorem getD_in {ls : List (List UInt8)} {B : Nat} (h : ∀ s ∈ ls, s.length ≤ B) {j : Nat} (hj : j < ls.length) : (ls.getD j []).length ≤ B := h _ (List.mem_of_getElem? (getD_get ls j [] hj))
theorem foldL_take (ds : List UInt8) (ls : List (List UInt8)) (i : Nat) (h : i < ls.length) : foldL kTab ds (ls.take (i + 1)) = linkL kTab (foldL kTab ds (ls.take i)) (ls.getD i []) := by rw [take_snoc ls i [] h, foldL_snoc]

set_option maxRecDepth 100000 in
set_option maxHeartbeats 800000 in
theorem fold13 (ds : List UInt8) (hds : ds.length = 32) (ls : List (List UInt8)) (v : Value) (w0 : World) (hM : RM w0 v ls) (hn : ls.length ≤ 9223372036854775807) (hs : ∀ s ∈ ls, s.length ≤ 200) (hT : Tab w0) :
    Calls Tryd.prog 13 #[dig ds, v] w0 fun e w' => e = .returned (dig (foldL kTab ds ls)) ∧ Below w0.heap.size w0 w' := by
  obtain ⟨av, cv, rfl, _⟩ := hM.form
  have hB := Below.refl w0.heap.size w0
  refine calls_fs 18 [(0, dig ds), (1, .slice av ls.length cv)] Tryd.func13 rfl rfl rfl rfl rfl fun a hF => ?_
  refine wp_rs fun K1 hK1 => ?_
  refine s_box (ds.map encB) hF (by decide) rfl rfl fun w2 b2 a eb2 m2 B3 zb2 hF => ?_
  have sB3 := B3.size
  have hB := hB.trans (B3.mono hB.size)
  refine s_alloc hF (by decide) zero24 fun w4 b4 a eb4 m4 B5 zb4 hF => ?_
  have sB5 := B5.size
  have hB := hB.trans (B5.mono hB.size)
  have m2 := m2.old B5
  have hbb : w0.heap.size ≤ b2 ∧ w0.heap.size ≤ b4 ∧ b2 ≠ b4 := ⟨by omega, by omega, by omega⟩
  refine s_end (hK1 _ _ ?_)
  refine wp_seq_k fun K2 hK2 => ?_
  refine wp_rs fun K3 hK3 => ?_
  refine s_val hF (x_move rfl) (by decide) fun a hF => ?_
  refine s_val hF (x_len Tryd.underlying24 rfl) (by decide) fun a hF => ?_
  refine s_val hF (x_move rfl) (by decide) fun a hF => ?_
  refine s_end (hK3 _ _ ?_)
  refine wp_block ?_
  refine wp_up ls.length (fun i a w => Blk w b2 23 ((foldL kTab ds (ls.take i)).map encB) ∧ Blk w b4 23 (z32.map encB) ∧ Below w0.heap.size w0 w ∧ Fs 18 a [(9, .int .i64 (i : Int)), (8, .int .i64 (ls.length : Int)), (7, .slice av ls.length cv), (2, .pointer (some ⟨b2, 0, none⟩)), (4, .pointer (some ⟨b4, 0, none⟩))]) ⟨m2, m4, hB, hF.sub _ rfl⟩ ?_
  clear hF hB m2 m4
  rintro i a w hi ⟨m2, m4, hB, hF⟩ K' hK'
  have sB := hB.size
  have hfl := foldL_length kTab (ls.take i) ds hds
  have hb2 : w0.heap.size ≤ b2 ∧ w0.heap.size ≤ b4 ∧ b2 ≠ b4 := hbb
  refine wp_rs fun K4 hK4 => ?_
  refine s_val hF (x_lss rfl rfl rfl) (by decide) fun a hF => ?_
  refine s_end (hK4 _ _ ?_)
  refine wp_seq_k fun K5 hK5 => ?_
  refine wp_iff hF rfl (fun hc10 => ?_) (fun hc10 => ?_)
  · obtain ⟨b, off, c, u, hve, hrow⟩ := hM.row (i := i) (by omega)
    cases hve
    refine wp_skip (hK5 _ _ ?_)
    refine wp_seq_k fun K6 hK6 => ?_
    refine wp_block ?_
    refine wp_rs fun K7 hK7 => ?_
    refine s_val hF (x_ixa rfl rfl (m_ixs i Tryd.underlying24 el24.size rfl (by omega))) (by decide) fun a hF => ?_
    refine s_val hF (x_load rfl (m_load flat25 (hrow _ hB).1)) (by decide) fun a hF => ?_
    refine s_val hF (x_assign rfl) (by decide) fun a hF => ?_
    refine s_end (hK7 _ _ ?_)
    refine wp_region_lit ?_
    refine s_val hF (x_loadD hfl m2 rfl) (by decide) fun a hF => ?_
    refine s_val hF (x_move rfl) (by decide) fun a hF => ?_
    refine s_callB [dig (foldL kTab ds (ls.take i)), _] hF (enters_of Tryd.func7 (by kernel_rfl) rfl) rfl (by decide) (link7 _ hfl _ (ls.getD i []) _ w ((hrow _ hB).2 _ (Nat.le_refl _)) (by have := getD_in hs (j := i) (by omega); omega) (hT.old hB)) fun w6 a B7 hF => ?_
    have sB7 := B7.size
    have hB := hB.trans (B7.mono hB.size)
    have m2 := m2.old B7
    have m4 := m4.old B7
    refine s_putD hfl (linkL_length _ _ _) m2 hF rfl rfl fun w8 m2 o9 => ?_
    have so9 := o9.size
    have hB := hB.trans (o9.below (by omega))
    have m4 := m4.only o9 (by omega)
    refine s_end (hK6 _ _ ?_)
    refine wp_region_lit ?_
    refine s_val hF (x_addn (i + 1) (by omega) (by omega) rfl rfl) (by decide) fun a hF => ?_
    refine s_val hF (x_move rfl) (by decide) fun a hF => ?_
    refine s_end (hK' _ _ (by omega) ⟨by rw [foldL_take ds ls i (by omega)]; exact m2, m4, hB, hF.sub _ rfl⟩)
  · obtain rfl : i = ls.length := by omega
    rw [List.take_length] at m2 hfl
    refine wp_exit (hK2 _ _ ?_)
    refine wp_rs fun K8 hK8 => ?_
    refine s_val hF (x_loadD hfl m2 rfl) (by decide) fun a hF => ?_
    refine s_putD z32l hfl m4 hF rfl rfl fun w10 m4 o11 => ?_
    have so11 := o11.size
    have hB := hB.trans (o11.below (by omega))
    have m2 := m2.only o11 (by omega)
    refine s_end (hK8 _ _ ?_)
    refine wp_ret (res_D hF rfl rfl hfl m4 ⟨rfl, hB⟩)

set_option maxRecDepth 100000 in
set_option maxHeartbeats 800000 in
theorem rfold14 (ds : List UInt8) (hds : ds.length = 32) (ls : List (List UInt8)) (v : Value) (w0 : World) (hM : RM w0 v ls) (hn : ls.length ≤ 9223372036854775807) (hs : ∀ s ∈ ls, s.length ≤ 200) :
    Calls Tryd.prog 14 #[dig ds, v] w0 fun e w' => e = .returned (dig (foldL kTab ds ls)) ∧ Below w0.heap.size w0 w' := by
  obtain ⟨av, cv, rfl, _⟩ := hM.form
  have hB := Below.refl w0.heap.size w0
  refine calls_fs 18 [(0, dig ds), (1, .slice av ls.length cv)] Tryd.func14 rfl rfl rfl rfl rfl fun a hF => ?_
  refine wp_rs fun K1 hK1 => ?_
  refine s_box (ds.map encB) hF (by decide) rfl rfl fun w2 b2 a eb2 m2 B3 zb2 hF => ?_
  have sB3 := B3.size
  have hB := hB.trans (B3.mono hB.size)
  refine s_alloc hF (by decide) zero24 fun w4 b4 a eb4 m4 B5 zb4 hF => ?_
  have sB5 := B5.size
  have hB := hB.trans (B5.mono hB.size)
  have m2 := m2.old B5
  have hbb : w0.heap.size ≤ b2 ∧ w0.heap.size ≤ b4 ∧ b2 ≠ b4 := ⟨by omega, by omega, by omega⟩
  refine s_end (hK1 _ _ ?_)
  refine wp_seq_k fun K2 hK2 => ?_
  refine wp_rs fun K3 hK3 => ?_
  refine s_val hF (x_move rfl) (by decide) fun a hF => ?_
  refine s_val hF (x_len Tryd.underlying24 rfl) (by decide) fun a hF => ?_
  refine s_val hF (x_move rfl) (by decide) fun a hF => ?_
  refine s_end (hK3 _ _ ?_)
  refine wp_block ?_
  refine wp_up ls.length (fun i a w => Blk w b2 23 ((foldL kTab ds (ls.take i)).map encB) ∧ Blk w b4 23 (z32.map encB) ∧ Below w0.heap.size w0 w ∧ Fs 18 a [(9, .int .i64 (i : Int)), (8, .int .i64 (ls.length : Int)), (7, .slice av ls.length cv), (2, .pointer (some ⟨b2, 0, none⟩)), (4, .pointer (some ⟨b4, 0, none⟩))]) ⟨m2, m4, hB, hF.sub _ rfl⟩ ?_
  clear hF hB m2 m4
  rintro i a w hi ⟨m2, m4, hB, hF⟩ K' hK'
  have sB := hB.size
  have hfl := foldL_length kTab (ls.take i) ds hds
  have hb2 : w0.heap.size ≤ b2 ∧ w0.heap.size ≤ b4 ∧ b2 ≠ b4 := hbb
  refine wp_rs fun K4 hK4 => ?_
  refine s_val hF (x_lss rfl rfl rfl) (by decide) fun a hF => ?_
  refine s_end (hK4 _ _ ?_)
  refine wp_seq_k fun K5 hK5 => ?_
  refine wp_iff hF rfl (fun hc10 => ?_) (fun hc10 => ?_)
  · obtain ⟨b, off, c, u, hve, hrow⟩ := hM.row (i := i) (by omega)
    cases hve
    refine wp_skip (hK5 _ _ ?_)
    refine wp_seq_k fun K6 hK6 => ?_
    refine wp_block ?_
    refine wp_rs fun K7 hK7 => ?_
    refine s_val hF (x_ixa rfl rfl (m_ixs i Tryd.underlying24 el24.size rfl (by omega))) (by decide) fun a hF => ?_
    refine s_val hF (x_load rfl (m_load flat25 (hrow _ hB).1)) (by decide) fun a hF => ?_
    refine s_val hF (x_assign rfl) (by decide) fun a hF => ?_
    refine s_end (hK7 _ _ ?_)
    refine wp_region_lit ?_
    refine s_val hF (x_loadD hfl m2 rfl) (by decide) fun a hF => ?_
    refine s_val hF (x_move rfl) (by decide) fun a hF => ?_
    refine s_callB [dig (foldL kTab ds (ls.take i)), _] hF (enters_of Tryd.func8 (by kernel_rfl) rfl) rfl (by decide) (rlink8 _ hfl _ (ls.getD i []) _ w ((hrow _ hB).2 _ (Nat.le_refl _)) (by have := getD_in hs (j := i) (by omega); omega)) fun w6 a B7 hF => ?_
    have sB7 := B7.size
    have hB := hB.trans (B7.mono hB.size)
    have m2 := m2.old B7
    have m4 := m4.old B7
    refine s_putD hfl (linkL_length _ _ _) m2 hF rfl rfl fun w8 m2 o9 => ?_
    have so9 := o9.size
    have hB := hB.trans (o9.below (by omega))
    have m4 := m4.only o9 (by omega)
    refine s_end (hK6 _ _ ?_)
    refine wp_region_lit ?_
    refine s_val hF (x_addn (i + 1) (by omega) (by omega) rfl rfl) (by decide) fun a hF => ?_
    refine s_val hF (x_move rfl) (by decide) fun a hF => ?_
    refine s_end (hK' _ _ (by omega) ⟨by rw [foldL_take ds ls i (by omega)]; exact m2, m4, hB, hF.sub _ rfl⟩)
  · obtain rfl : i = ls.length := by omega
    rw [List.take_length] at m2 hfl
    refine wp_exit (hK2 _ _ ?_)
    refine wp_rs fun K8 hK8 => ?_
    refine s_val hF (x_loadD hfl m2 rfl) (by decide) fun a hF => ?_
    refine s_putD z32l hfl m4 hF rfl rfl fun w10 m4 o11 => ?_
    have so11 := o11.size
    have hB := hB.trans (o11.below (by omega))
    have m2 := m2.only o11 (by omega)
    refine s_end (hK8 _ _ ?_)
    refine wp_ret (res_D hF rfl rfl hfl m4 ⟨rfl, hB⟩)

set_option maxRecDepth 100000 in
set_option maxHeartbeats 1600000 in
theorem root17 : ∀ (N : Nat) (ls : List (List UInt8)) (v : Value) (w0 : World), ls.length < N → RM w0 v ls → ls.length ≤ 4611686018427387904 → (∀ s ∈ ls, s.length ≤ 200) → Tab w0 →
    Calls Tryd.prog 17 #[v] w0 fun e w' => e = .returned (dig (rootF kTab N ls)) ∧ Below w0.heap.size w0 w' := by
  intro N
  induction N with
  | zero => intro ls v w0 h; omega
  | succ N ih =>
  intro ls v w0 hN hM hn hs hT
  obtain ⟨av, cv, rfl, hcv⟩ := hM.form
  have hB := Below.refl w0.heap.size w0
  have sB := hB.size
  refine calls_fs 27 [(0, .slice av ls.length cv)] Tryd.func17 rfl rfl rfl rfl rfl fun a hF => ?_
  refine wp_rs fun K1 hK1 => ?_
  refine s_alloc hF (by decide) zero24 fun w2 b2 a eb2 m2 B3 zb2 hF => ?_
  have sB3 := B3.size
  have hB := hB.trans (B3.mono hB.size)
  refine s_end (hK1 _ _ ?_)
  refine wp_seq_k fun K2 hK2 => ?_
  refine wp_rs fun K3 hK3 => ?_
  refine s_val hF (x_move rfl) (by decide) fun a hF => ?_
  refine s_val hF (x_len Tryd.underlying24 rfl) (by decide) fun a hF => ?_
  refine s_end (hK3 _ _ ?_)
  refine wp_block ?_
  refine wp_rs fun K4 hK4 => ?_
  refine s_val hF (x_eql (b := decide (ls.length = 0)) (decide_eq_decide.2 (by omega)) rfl rfl) (by decide) fun a hF => ?_
  refine s_val hF (x_assign rfl) (by decide) fun a hF => ?_
  refine s_end (hK4 _ _ ?_)
  refine wp_iff hF rfl (fun hc6 => ?_) (fun hc6 => ?_)
  · refine wp_rs fun K5 hK5 => ?_
    refine s_callB [encB 3, .slice none 0 0] hF (enters_of Tryd.func23 (by kernel_rfl) rfl) rfl (by decide) (sum23 3 [] _ w2 (RM.nil _) (hT.old hB) (by simp) (by simp)) fun w4 a B5 hF => ?_
    have sB5 := B5.size
    have hB := hB.trans (B5.mono hB.size)
    have m2 := m2.old B5
    refine s_putD z32l (shaL_length _ _) m2 hF rfl rfl fun w6 m2 o7 => ?_
    have so7 := o7.size
    have hB := hB.trans (o7.below (by omega))
    refine s_end (hK5 _ _ ?_)
    refine wp_ret (inb_ret (then_ret (res_D hF rfl rfl (shaL_length _ _) m2 ⟨by rw [rootF, if_pos hc6]; rfl, hB⟩)))
  · refine wp_rs fun K6 hK6 => ?_
    refine s_val hF (x_eql (b := decide (ls.length = 1)) (decide_eq_decide.2 (by omega)) rfl rfl) (by decide) fun a hF => ?_
    refine s_val hF (x_assign rfl) (by decide) fun a hF => ?_
    refine s_end (hK6 _ _ ?_)
    refine wp_iff hF rfl (fun hc9 => ?_) (fun hc9 => ?_)
    · obtain ⟨b, off, c, u, hve, hrow⟩ := hM.row (i := 0) (by omega)
      cases hve
      refine wp_rs fun K7 hK7 => ?_
      refine s_val hF (x_move rfl) (by decide) fun a hF => ?_
      refine s_val hF (x_ixa rfl rfl (m_ixs 0 Tryd.underlying24 el24.size rfl (by omega))) (by decide) fun a hF => ?_
      refine s_val hF (x_load rfl (m_load flat25 (hrow _ hB).1)) (by decide) fun a hF => ?_
      refine s_callB [_] hF (enters_of Tryd.func9 (by kernel_rfl) rfl) rfl (by decide) (leaf9 _ (ls.getD 0 []) _ w2 ((hrow _ hB).2 _ (Nat.le_refl _)) (by have := getD_in hs (j := 0) (by omega); omega) (hT.old hB)) fun w8 a B9 hF => ?_
      have sB9 := B9.size
      have hB := hB.trans (B9.mono hB.size)
      have m2 := m2.old B9
      refine s_putD z32l (shaL_length _ _) m2 hF rfl rfl fun w10 m2 o11 => ?_
      have so11 := o11.size
      have hB := hB.trans (o11.below (by omega))
      refine s_end (hK7 _ _ ?_)
      refine wp_ret (inb_ret (then_ret (res_D hF rfl rfl (shaL_length _ _) m2 ⟨by rw [rootF, if_neg hc6, if_pos hc9, leafL], hB⟩)))
    · refine wp_skip (hK2 _ _ ?_)
      refine wp_rs fun K8 hK8 => ?_
      refine s_val hF (x_move rfl) (by decide) fun a hF => ?_
      refine s_val hF (x_len Tryd.underlying24 rfl) (by decide) fun a hF => ?_
      refine s_callS [.int .i64 (ls.length : Int)] hF (enters_of Tryd.func27 (by kernel_rfl) rfl) rfl (by decide) (left27 ls.length (by omega) (by omega) _) fun a hF => ?_
      have hk1 := halfL_lt (n := ls.length) (by omega)
      have hk0 := halfL_pos ls.length
      refine s_val hF (x_assign rfl) (by decide) fun a hF => ?_
      refine s_end (hK8 _ _ ?_)
      refine dk_seq (b2) (ops := regOps Tryd.f17 7) (N := 10) (by kernel_rfl) wide_orders (by kernel_rfl) fun w12 hw12 B13 hS K9 hK9 => ?_
      have zw12 : w12.heap.size = w2.heap.size := by rw [hw12]
      have sB13 := B13.size
      have hB := hB.trans (B13.mono hB.size)
      have m2 := m2.old B13
      have m2_d := m2
      have hB_d := hB
      refine d_val 0 18 (op := (Go.Op.move (Go.Operand.tmp 0))) hF hS (by kernel_rfl) (fun W hW => x_move rfl) (by kernel_rfl) (by decide) fun a hF => ?_
      refine d_val 1 19 (op := (Go.Op.move (Go.Operand.tmp 3))) hF hS (by kernel_rfl) (fun W hW => x_move rfl) (by kernel_rfl) (by decide) fun a hF => ?_
      refine d_val 2 20 (op := (Go.Op.slice 24 (Go.Operand.tmp 18) none (some (Go.Operand.tmp 19)) none)) hF hS (by kernel_rfl) (fun W hW => x_slice (vlo := none) (vhi := some (.int .i64 (halfL ls.length : Int))) (vmx := none) rfl rfl rfl rfl (m_sliceUK (halfL ls.length) Tryd.underlying24 el24.size rfl (by omega))) (by kernel_rfl) (by decide) fun a hF => ?_
      refine d_val 4 22 (op := (Go.Op.move (Go.Operand.tmp 0))) hF hS (by kernel_rfl) (fun W hW => x_move rfl) (by kernel_rfl) (by decide) fun a hF => ?_
      refine d_val 5 23 (op := (Go.Op.move (Go.Operand.tmp 3))) hF hS (by kernel_rfl) (fun W hW => x_move rfl) (by kernel_rfl) (by decide) fun a hF => ?_
      refine d_val 6 24 (op := (Go.Op.slice 24 (Go.Operand.tmp 22) (some (Go.Operand.tmp 23)) none none)) hF hS (by kernel_rfl) (fun W hW => x_slice (vlo := some (.int .i64 (halfL ls.length : Int))) (vhi := none) (vmx := none) rfl rfl rfl rfl (m_sliceFK (halfL ls.length) Tryd.underlying24 el24.size rfl (by omega))) (by kernel_rfl) (by decide) fun a hF => ?_
      refine d_one 3 (some 21) (Go.Op.call (Go.Call.mk (Go.Callee.value (Go.Operand.func 17)) #[(Go.Operand.tmp 20)] #[24])) (by kernel_rfl) (by kernel_rfl) fun ty pos af => ?_
      refine s_callB [_] hF (enters_of Tryd.func17 (by kernel_rfl) rfl) rfl (by decide) (ih (ls.take (halfL ls.length)) _ w12 (by rw [List.length_take]; omega) ((hM.below hB).upto (halfL ls.length) (by omega)) (by rw [List.length_take]; omega) (fun s hx => hs s (List.mem_of_mem_take hx)) (hT.old hB)) fun w14 a B15 hF => ?_
      have sB15 := B15.size
      have hB := hB.trans (B15.mono hB.size)
      have m2 := m2.old B15
      have hS := hS.below B15
      refine s_end ⟨hS, ?_⟩
      refine d_one 7 (some 25) (Go.Op.call (Go.Call.mk (Go.Callee.value (Go.Operand.func 17)) #[(Go.Operand.tmp 24)] #[24])) (by kernel_rfl) (by kernel_rfl) fun ty pos af => ?_
      refine s_callB [_] hF (enters_of Tryd.func17 (by kernel_rfl) rfl) rfl (by decide) (ih (ls.drop (halfL ls.length)) _ w14 (by rw [List.length_drop]; omega) ((hM.below hB).from (halfL ls.length) (by omega)) (by rw [List.length_drop]; omega) (fun s hx => hs s (List.mem_of_mem_drop hx)) (hT.old hB)) fun w16 a B17 hF => ?_
      have sB17 := B17.size
      have hB := hB.trans (B17.mono hB.size)
      have m2 := m2.old B17
      have hS := hS.below B17
      refine s_end ⟨hS, ?_⟩
      refine d_one 8 (some 26) (Go.Op.call (Go.Call.mk (Go.Callee.value (Go.Operand.func 11)) #[(Go.Operand.tmp 21), (Go.Operand.tmp 25)] #[23, 23])) (by kernel_rfl) (by kernel_rfl) fun ty pos af => ?_
      refine s_callB [_, _] hF (enters_of Tryd.func11 (by kernel_rfl) rfl) rfl (by decide) (node11 _ _ (rootF_length _ _ _) (rootF_length _ _ _) w16 (hT.old hB)) fun w18 a B19 hF => ?_
      have sB19 := B19.size
      have hB := hB.trans (B19.mono hB.size)
      have m2 := m2.old B19
      have hS := hS.below B19
      refine s_end ⟨hS, ?_⟩
      refine d_one 9 none (Go.Op.store 23 (Go.Operand.tmp 2) (Go.Operand.tmp 26)) (by kernel_rfl) (by kernel_rfl) fun ty pos af => ?_
      refine s_putD z32l (shaL_length _ _) m2 hF rfl rfl fun w20 m2 o21 => ?_
      have so21 := o21.size
      have hB := hB.trans (o21.below (by omega))
      have hS := hS.only o21 (by omega)
      refine s_end ⟨hS, ?_⟩
      refine d_end (by kernel_rfl) (hK9 _ _ ?_)
      refine wp_ret (res_D hF rfl rfl (shaL_length _ _) m2 ⟨by rw [rootF, if_neg hc6, if_neg hc9, nodeL], hB⟩)

set_option maxRecDepth 100000 in
set_option maxHeartbeats 1600000 in
theorem rroot18 : ∀ (N : Nat) (ls : List (List UInt8)) (v : Value) (w0 : World), ls.length < N → RM w0 v ls → ls.length ≤ 4611686018427387904 → (∀ s ∈ ls, s.length ≤ 200) →
    Calls Tryd.prog 18 #[v] w0 fun e w' => e = .returned (dig (rootF kTab N ls)) ∧ Below w0.heap.size w0 w' := by
  intro N
  induction N with
  | zero => intro ls v w0 h; omega
  | succ N ih =>
  intro ls v w0 hN hM hn hs
  obtain ⟨av, cv, rfl, hcv⟩ := hM.form
  have hB := Below.refl w0.heap.size w0
  have sB := hB.size
  refine calls_fs 28 [(0, .slice av ls.length cv)] Tryd.func18 rfl rfl rfl rfl rfl fun a hF => ?_
  refine wp_rs fun K1 hK1 => ?_
  refine s_alloc hF (by decide) zero24 fun w2 b2 a eb2 m2 B3 zb2 hF => ?_
  have sB3 := B3.size
  have hB := hB.trans (B3.mono hB.size)
  refine s_end (hK1 _ _ ?_)
  refine wp_seq_k fun K2 hK2 => ?_
  refine wp_rs fun K3 hK3 => ?_
  refine s_val hF (x_move rfl) (by decide) fun a hF => ?_
  refine s_val hF (x_len Tryd.underlying24 rfl) (by decide) fun a hF => ?_
  refine s_end (hK3 _ _ ?_)
  refine wp_block ?_
  refine wp_rs fun K4 hK4 => ?_
  refine s_val hF (x_eql (b := decide (ls.length = 0)) (decide_eq_decide.2 (by omega)) rfl rfl) (by decide) fun a hF => ?_
  refine s_val hF (x_assign rfl) (by decide) fun a hF => ?_
  refine s_end (hK4 _ _ ?_)
  refine wp_iff hF rfl (fun hc6 => ?_) (fun hc6 => ?_)
  · refine wp_rs fun K5 hK5 => ?_
    refine s_lit [3] hF (by decide) rfl Tryd.underlying25 (size_flat flat5) zero5 rfl (by decide) (by decide) fun w81 bt a ebt mt B81 zbt hF => ?_
    have sB81 := B81.size
    have hB := hB.trans (B81.mono hB.size)
    have m2 := m2.old B81
    refine s_callB [_] hF (enters_of Tryd.func24 (by kernel_rfl) rfl) rfl (by decide) (rsum11 (bt + 1) [3] _ w81 (RB.blk mt (by omega)) (by decide)) fun w4 a B5 hF => ?_
    have sB5 := B5.size
    have hB := hB.trans (B5.mono hB.size)
    have m2 := m2.old B5
    refine s_putD z32l (shaL_length _ _) m2 hF rfl rfl fun w6 m2 o7 => ?_
    have so7 := o7.size
    have hB := hB.trans (o7.below (by omega))
    refine s_end (hK5 _ _ ?_)
    refine wp_ret (inb_ret (then_ret (res_D hF rfl rfl (shaL_length _ _) m2 ⟨by rw [rootF, if_pos hc6], hB⟩)))
  · refine wp_rs fun K6 hK6 => ?_
    refine s_val hF (x_eql (b := decide (ls.length = 1)) (decide_eq_decide.2 (by omega)) rfl rfl) (by decide) fun a hF => ?_
    refine s_val hF (x_assign rfl) (by decide) fun a hF => ?_
    refine s_end (hK6 _ _ ?_)
    refine wp_iff hF rfl (fun hc10 => ?_) (fun hc10 => ?_)
    · obtain ⟨b, off, c, u, hve, hrow⟩ := hM.row (i := 0) (by omega)
      cases hve
      refine wp_rs fun K7 hK7 => ?_
      refine s_val hF (x_move rfl) (by decide) fun a hF => ?_
      refine s_val hF (x_ixa rfl rfl (m_ixs 0 Tryd.underlying24 el24.size rfl (by omega))) (by decide) fun a hF => ?_
      refine s_val hF (x_load rfl (m_load flat25 (hrow _ hB).1)) (by decide) fun a hF => ?_
      refine s_callB [_] hF (enters_of Tryd.func10 (by kernel_rfl) rfl) rfl (by decide) (rleaf10 _ (ls.getD 0 []) _ w2 ((hrow _ hB).2 _ (Nat.le_refl _)) (by have := getD_in hs (j := 0) (by omega); omega)) fun w8 a B9 hF => ?_
      have sB9 := B9.size
      have hB := hB.trans (B9.mono hB.size)
      have m2 := m2.old B9
      refine s_putD z32l (shaL_length _ _) m2 hF rfl rfl fun w10 m2 o11 => ?_
      have so11 := o11.size
      have hB := hB.trans (o11.below (by omega))
      refine s_end (hK7 _ _ ?_)
      refine wp_ret (inb_ret (then_ret (res_D hF rfl rfl (shaL_length _ _) m2 ⟨by rw [rootF, if_neg hc6, if_pos hc10, leafL], hB⟩)))
    · refine wp_skip (hK2 _ _ ?_)
      refine wp_rs fun K8 hK8 => ?_
      refine s_val hF (x_move rfl) (by decide) fun a hF => ?_
      refine s_val hF (x_len Tryd.underlying24 rfl) (by decide) fun a hF => ?_
      refine s_callS [.int .i64 (ls.length : Int)] hF (enters_of Tryd.func28 (by kernel_rfl) rfl) rfl (by decide) (half28 ls.length (by omega) (by omega) _) fun a hF => ?_
      have hk1 := halfL_lt (n := ls.length) (by omega)
      have hk0 := halfL_pos ls.length
      refine s_val hF (x_assign rfl) (by decide) fun a hF => ?_
      refine s_end (hK8 _ _ ?_)
      refine dk_seq (b2) (ops := regOps Tryd.f18 7) (N := 10) (by kernel_rfl) wide_orders (by kernel_rfl) fun w12 hw12 B13 hS K9 hK9 => ?_
      have zw12 : w12.heap.size = w2.heap.size := by rw [hw12]
      have sB13 := B13.size
      have hB := hB.trans (B13.mono hB.size)
      have m2 := m2.old B13
      have m2_d := m2
      have hB_d := hB
      refine d_val 0 19 (op := (Go.Op.move (Go.Operand.tmp 0))) hF hS (by kernel_rfl) (fun W hW => x_move rfl) (by kernel_rfl) (by decide) fun a hF => ?_
      refine d_val 1 20 (op := (Go.Op.move (Go.Operand.tmp 3))) hF hS (by kernel_rfl) (fun W hW => x_move rfl) (by kernel_rfl) (by decide) fun a hF => ?_
      refine d_val 2 21 (op := (Go.Op.slice 24 (Go.Operand.tmp 19) none (some (Go.Operand.tmp 20)) none)) hF hS (by kernel_rfl) (fun W hW => x_slice (vlo := none) (vhi := some (.int .i64 (halfL ls.length : Int))) (vmx := none) rfl rfl rfl rfl (m_sliceUK (halfL ls.length) Tryd.underlying24 el24.size rfl (by omega))) (by kernel_rfl) (by decide) fun a hF => ?_
      refine d_val 4 23 (op := (Go.Op.move (Go.Operand.tmp 0))) hF hS (by kernel_rfl) (fun W hW => x_move rfl) (by kernel_rfl) (by decide) fun a hF => ?_
      refine d_val 5 24 (op := (Go.Op.move (Go.Operand.tmp 3))) hF hS (by kernel_rfl) (fun W hW => x_move rfl) (by kernel_rfl) (by decide) fun a hF => ?_
      refine d_val 6 25 (op := (Go.Op.slice 24 (Go.Operand.tmp 23) (some (Go.Operand.tmp 24)) none none)) hF hS (by kernel_rfl) (fun W hW => x_slice (vlo := some (.int .i64 (halfL ls.length : Int))) (vhi := none) (vmx := none) rfl rfl rfl rfl (m_sliceFK (halfL ls.length) Tryd.underlying24 el24.size rfl (by omega))) (by kernel_rfl) (by decide) fun a hF => ?_
      refine d_one 3 (some 22) (Go.Op.call (Go.Call.mk (Go.Callee.value (Go.Operand.func 18)) #[(Go.Operand.tmp 21)] #[24])) (by kernel_rfl) (by kernel_rfl) fun ty pos af => ?_
      refine s_callB [_] hF (enters_of Tryd.func18 (by kernel_rfl) rfl) rfl (by decide) (ih (ls.take (halfL ls.length)) _ w12 (by rw [List.length_take]; omega) ((hM.below hB).upto (halfL ls.length) (by omega)) (by rw [List.length_take]; omega) (fun s hx => hs s (List.mem_of_mem_take hx))) fun w14 a B15 hF => ?_
      have sB15 := B15.size
      have hB := hB.trans (B15.mono hB.size)
      have m2 := m2.old B15
      have hS := hS.below B15
      refine s_end ⟨hS, ?_⟩
      refine d_one 7 (some 26) (Go.Op.call (Go.Call.mk (Go.Callee.value (Go.Operand.func 18)) #[(Go.Operand.tmp 25)] #[24])) (by kernel_rfl) (by kernel_rfl) fun ty pos af => ?_
      refine s_callB [_] hF (enters_of Tryd.func18 (by kernel_rfl) rfl) rfl (by decide) (ih (ls.drop (halfL ls.length)) _ w14 (by rw [List.length_drop]; omega) ((hM.below hB).from (halfL ls.length) (by omega)) (by rw [List.length_drop]; omega) (fun s hx => hs s (List.mem_of_mem_drop hx))) fun w16 a B17 hF => ?_
      have sB17 := B17.size
      have hB := hB.trans (B17.mono hB.size)
      have m2 := m2.old B17
      have hS := hS.below B17
      refine s_end ⟨hS, ?_⟩
      refine d_one 8 (some 27) (Go.Op.call (Go.Call.mk (Go.Callee.value (Go.Operand.func 12)) #[(Go.Operand.tmp 22), (Go.Operand.tmp 26)] #[23, 23])) (by kernel_rfl) (by kernel_rfl) fun ty pos af => ?_
      refine s_callB [_, _] hF (enters_of Tryd.func12 (by kernel_rfl) rfl) rfl (by decide) (rnode12 _ _ (rootF_length _ _ _) (rootF_length _ _ _) w16) fun w18 a B19 hF => ?_
      have sB19 := B19.size
      have hB := hB.trans (B19.mono hB.size)
      have m2 := m2.old B19
      have hS := hS.below B19
      refine s_end ⟨hS, ?_⟩
      refine d_one 9 none (Go.Op.store 23 (Go.Operand.tmp 2) (Go.Operand.tmp 27)) (by kernel_rfl) (by kernel_rfl) fun ty pos af => ?_
      refine s_putD z32l (shaL_length _ _) m2 hF rfl rfl fun w20 m2 o21 => ?_
      have so21 := o21.size
      have hB := hB.trans (o21.below (by omega))
      have hS := hS.only o21 (by omega)
      refine s_end ⟨hS, ?_⟩
      refine d_end (by kernel_rfl) (hK9 _ _ ?_)
      refine wp_ret (res_D hF rfl rfl (shaL_length _ _) m2 ⟨by rw [rootF, if_neg hc6, if_neg hc10, nodeL], hB⟩)

theorem root3 (ks : List UInt32) (x y z : List UInt8) : rootF ks 4 [x, y, z] = nodeL ks (nodeL ks (leafL ks x) (leafL ks y)) (leafL ks z) := by
  have h3 : halfL 3 = 2 := by decide +kernel
  have h2 : halfL 2 = 1 := by decide +kernel
  simp [rootF, h3, h2]
theorem rm_three {w : World} {b : Nat} {u1 u2 u3 : Value} {l1 l2 l3 : List UInt8} (m : Blk w b 25 [u1, u2, u3]) (h1 : RB w.heap.size w u1 l1) (h2 : RB w.heap.size w u2 l2) (h3 : RB w.heap.size w u3 l3) : RM w (.slice (some ⟨b, 0, none⟩) 3 3) [l1, l2, l3] := by
  refine rm_lit (ls := [l1, l2, l3]) m rfl fun i u l hu hl => ?_
  rcases i with _ | _ | _ | i <;> simp at hu hl
  · rw [← hu, ← hl]; exact h1
  · rw [← hu, ← hl]; exact h2
  · rw [← hu, ← hl]; exact h3
set_option maxRecDepth 100000 in
set_option maxHeartbeats 800000 in
theorem awake15 (w0 : World) (hT : Tab w0) : Calls Tryd.prog 15 #[] w0 fun e w' => e = .returned (.bool true) ∧ Below w0.heap.size w0 w' := by
  have hB := Below.refl w0.heap.size w0
  have sB := hB.size
  refine calls_fs (vs := []) 26 [] Tryd.func15 rfl rfl rfl rfl rfl fun a hF => ?_
  refine wp_rs fun K1 hK1 => ?_
  refine s_val hF (x_assign rfl) (by decide) fun a hF => ?_
  refine s_end (hK1 _ _ ?_)
  refine wp_rs fun K2 hK2 => ?_
  refine s_lit [97] hF (by decide) rfl Tryd.underlying25 (size_flat flat5) zero5 rfl (by decide) (by decide) fun w2 b1 a eb1 m1 B3 zb1 hF => ?_
  have sB3 := B3.size
  have hB := hB.trans (B3.mono hB.size)
  refine s_mark (bs := [97]) (b1 + 1) hF (by decide) rfl m1 (by omega) fun w4 a hR1 o5 hF => ?_
  have so5 := o5.size
  have hB := hB.trans (o5.below (by omega))
  refine s_lit [98] hF (by decide) rfl Tryd.underlying25 (size_flat flat5) zero5 rfl (by decide) (by decide) fun w6 b2 a eb2 m2 B7 zb2 hF => ?_
  have hR1 := (hR1.young (ex' := b2) (by omega)).below B7
  have sB7 := B7.size
  have hB := hB.trans (B7.mono hB.size)
  refine s_mark (bs := [98]) (b2 + 1) hF (by decide) rfl m2 (by omega) fun w8 a hR2 o9 hF => ?_
  have hR1 := hR1.only o9
  have so9 := o9.size
  have hB := hB.trans (o9.below (by omega))
  refine s_lit [99] hF (by decide) rfl Tryd.underlying25 (size_flat flat5) zero5 rfl (by decide) (by decide) fun w10 b3 a eb3 m3 B11 zb3 hF => ?_
  have hR1 := (hR1.young (ex' := b3) (by omega)).below B11
  have hR2 := (hR2.young (ex' := b3) (by omega)).below B11
  have sB11 := B11.size
  have hB := hB.trans (B11.mono hB.size)
  refine s_mark (bs := [99]) (b3 + 1) hF (by decide) rfl m3 (by omega) fun w12 a hR3 o13 hF => ?_
  have hR1 := hR1.only o13
  have hR2 := hR2.only o13
  have so13 := o13.size
  have hB := hB.trans (o13.below (by omega))
  refine s_litG [.slice (some ⟨b1, 0, none⟩) 1 1, .slice (some ⟨b2, 0, none⟩) 1 1, .slice (some ⟨b3, 0, none⟩) 1 1] el24 hF (by decide) rfl (by simp [Value.cells]) rfl (by decide) (by decide) fun w14 bl a ebl ml B15 zbl hF => ?_
  have sB15 := B15.size
  have hB := hB.trans (B15.mono hB.size)
  have hM := rm_three ml ((hR1.young (ex' := w12.heap.size) (Nat.le_refl _)).below B15 |>.young (Nat.le_refl _)) ((hR2.young (ex' := w12.heap.size) (Nat.le_refl _)).below B15 |>.young (Nat.le_refl _)) ((hR3.young (ex' := w12.heap.size) (Nat.le_refl _)).below B15 |>.young (Nat.le_refl _))
  have hBm := Below.refl w14.heap.size w14
  refine s_val hF (x_assign rfl) (by decide) fun a hF => ?_
  refine s_end (hK2 _ _ ?_)
  obtain ⟨bq, oq, cq, u0, hve, hrow0⟩ := hM.row (i := 0) (by decide)
  cases hve
  obtain ⟨bq, oq, cq, u1, hve, hrow1⟩ := hM.row (i := 1) (by decide)
  cases hve
  obtain ⟨bq, oq, cq, u2, hve, hrow2⟩ := hM.row (i := 2) (by decide)
  cases hve
  refine dk_seq (w14.heap.size) (ops := regOps Tryd.f15 2) (N := 18) (by kernel_rfl) wide_orders (by kernel_rfl) fun w16 hw16 B17 hS K3 hK3 => ?_
  have zw16 : w16.heap.size = w14.heap.size := by rw [hw16]
  have sB17 := B17.size
  have hB := hB.trans (B17.mono hB.size)
  have hBm := hBm.trans (B17.mono hBm.size)
  have ml := ml.old B17
  have ml_d := ml
  have hB_d := hB
  have hBm_d := hBm
  refine d_val 0 9 (op := (Go.Op.move (Go.Operand.tmp 1))) hF hS (by kernel_rfl) (fun W hW => x_move rfl) (by kernel_rfl) (by decide) fun a hF => ?_
  refine d_val 2 11 (op := (Go.Op.move (Go.Operand.tmp 1))) hF hS (by kernel_rfl) (fun W hW => x_move rfl) (by kernel_rfl) (by decide) fun a hF => ?_
  refine d_val 3 12 (op := (Go.Op.indexAddr 24 (Go.Operand.tmp 11) (Go.Operand.const (Go.Value.int Go.IntKind.i64 0)))) hF hS (by kernel_rfl) (fun W hW => x_ixa rfl rfl (m_ixs 0 Tryd.underlying24 el24.size rfl (by decide))) (by kernel_rfl) (by decide) fun a hF => ?_
  refine d_val 4 13 (op := (Go.Op.load 25 (Go.Operand.tmp 12))) hF hS (by kernel_rfl) (fun W hW => x_load rfl (m_load flat25 (by have := (hrow0 W (hW.under hBm_d (by omega))).1; exact this))) (by kernel_rfl) (by decide) fun a hF => ?_
  refine d_val 6 15 (op := (Go.Op.move (Go.Operand.tmp 1))) hF hS (by kernel_rfl) (fun W hW => x_move rfl) (by kernel_rfl) (by decide) fun a hF => ?_
  refine d_val 7 16 (op := (Go.Op.indexAddr 24 (Go.Operand.tmp 15) (Go.Operand.const (Go.Value.int Go.IntKind.i64 1)))) hF hS (by kernel_rfl) (fun W hW => x_ixa rfl rfl (m_ixs 1 Tryd.underlying24 el24.size rfl (by decide))) (by kernel_rfl) (by decide) fun a hF => ?_
  refine d_val 8 17 (op := (Go.Op.load 25 (Go.Operand.tmp 16))) hF hS (by kernel_rfl) (fun W hW => x_load rfl (m_load flat25 (by have := (hrow1 W (hW.under hBm_d (by omega))).1; exact this))) (by kernel_rfl) (by decide) fun a hF => ?_
  refine d_val 11 20 (op := (Go.Op.move (Go.Operand.tmp 1))) hF hS (by kernel_rfl) (fun W hW => x_move rfl) (by kernel_rfl) (by decide) fun a hF => ?_
  refine d_val 12 21 (op := (Go.Op.indexAddr 24 (Go.Operand.tmp 20) (Go.Operand.const (Go.Value.int Go.IntKind.i64 2)))) hF hS (by kernel_rfl) (fun W hW => x_ixa rfl rfl (m_ixs 2 Tryd.underlying24 el24.size rfl (by decide))) (by kernel_rfl) (by decide) fun a hF => ?_
  refine d_val 13 22 (op := (Go.Op.load 25 (Go.Operand.tmp 21))) hF hS (by kernel_rfl) (fun W hW => x_load rfl (m_load flat25 (by have := (hrow2 W (hW.under hBm_d (by omega))).1; exact this))) (by kernel_rfl) (by decide) fun a hF => ?_
  refine d_one 1 (some 10) (Go.Op.call (Go.Call.mk (Go.Callee.value (Go.Operand.func 17)) #[(Go.Operand.tmp 9)] #[24])) (by kernel_rfl) (by kernel_rfl) fun ty pos af => ?_
  refine s_callB [_] hF (enters_of Tryd.func17 (by kernel_rfl) rfl) rfl (by decide) (root17 4 [[97], [98], [99]] _ w16 (by decide) (hM.below hBm) (by decide) (by decide) (hT.old hB)) fun w18 a B19 hF => ?_
  have sB19 := B19.size
  have hB := hB.trans (B19.mono hB.size)
  have hBm := hBm.trans (B19.mono hBm.size)
  have ml := ml.old B19
  have hS := hS.below B19
  refine s_end ⟨hS, ?_⟩
  refine d_one 5 (some 14) (Go.Op.call (Go.Call.mk (Go.Callee.value (Go.Operand.func 10)) #[(Go.Operand.tmp 13)] #[25])) (by kernel_rfl) (by kernel_rfl) fun ty pos af => ?_
  refine s_callB [_] hF (enters_of Tryd.func10 (by kernel_rfl) rfl) rfl (by decide) (rleaf10 _ [97] _ w18 ((hrow0 _ hBm).2 _ (Nat.le_refl _)) (by decide)) fun w20 a B21 hF => ?_
  have sB21 := B21.size
  have hB := hB.trans (B21.mono hB.size)
  have hBm := hBm.trans (B21.mono hBm.size)
  have ml := ml.old B21
  have hS := hS.below B21
  refine s_end ⟨hS, ?_⟩
  refine d_one 9 (some 18) (Go.Op.call (Go.Call.mk (Go.Callee.value (Go.Operand.func 10)) #[(Go.Operand.tmp 17)] #[25])) (by kernel_rfl) (by kernel_rfl) fun ty pos af => ?_
  refine s_callB [_] hF (enters_of Tryd.func10 (by kernel_rfl) rfl) rfl (by decide) (rleaf10 _ [98] _ w20 ((hrow1 _ hBm).2 _ (Nat.le_refl _)) (by decide)) fun w22 a B23 hF => ?_
  have sB23 := B23.size
  have hB := hB.trans (B23.mono hB.size)
  have hBm := hBm.trans (B23.mono hBm.size)
  have ml := ml.old B23
  have hS := hS.below B23
  refine s_end ⟨hS, ?_⟩
  refine d_one 10 (some 19) (Go.Op.call (Go.Call.mk (Go.Callee.value (Go.Operand.func 12)) #[(Go.Operand.tmp 14), (Go.Operand.tmp 18)] #[23, 23])) (by kernel_rfl) (by kernel_rfl) fun ty pos af => ?_
  refine s_callB [_, _] hF (enters_of Tryd.func12 (by kernel_rfl) rfl) rfl (by decide) (rnode12 _ _ (shaL_length _ _) (shaL_length _ _) w22) fun w24 a B25 hF => ?_
  have sB25 := B25.size
  have hB := hB.trans (B25.mono hB.size)
  have hBm := hBm.trans (B25.mono hBm.size)
  have ml := ml.old B25
  have hS := hS.below B25
  refine s_end ⟨hS, ?_⟩
  refine d_one 14 (some 23) (Go.Op.call (Go.Call.mk (Go.Callee.value (Go.Operand.func 10)) #[(Go.Operand.tmp 22)] #[25])) (by kernel_rfl) (by kernel_rfl) fun ty pos af => ?_
  refine s_callB [_] hF (enters_of Tryd.func10 (by kernel_rfl) rfl) rfl (by decide) (rleaf10 _ [99] _ w24 ((hrow2 _ hBm).2 _ (Nat.le_refl _)) (by decide)) fun w26 a B27 hF => ?_
  have sB27 := B27.size
  have hB := hB.trans (B27.mono hB.size)
  have hBm := hBm.trans (B27.mono hBm.size)
  have ml := ml.old B27
  have hS := hS.below B27
  refine s_end ⟨hS, ?_⟩
  refine d_one 15 (some 24) (Go.Op.call (Go.Call.mk (Go.Callee.value (Go.Operand.func 12)) #[(Go.Operand.tmp 19), (Go.Operand.tmp 23)] #[23, 23])) (by kernel_rfl) (by kernel_rfl) fun ty pos af => ?_
  refine s_callB [_, _] hF (enters_of Tryd.func12 (by kernel_rfl) rfl) rfl (by decide) (rnode12 _ _ (shaL_length _ _) (shaL_length _ _) w26) fun w28 a B29 hF => ?_
  have sB29 := B29.size
  have hB := hB.trans (B29.mono hB.size)
  have hBm := hBm.trans (B29.mono hBm.size)
  have ml := ml.old B29
  have hS := hS.below B29
  refine s_end ⟨hS, ?_⟩
  refine d_val 16 25 (op := (Go.Op.binOp Go.BinOp.eql 23 (Go.Operand.tmp 10) (Go.Operand.tmp 24) 23)) hF hS (by kernel_rfl) (fun W hW => x_eqDT (rootF_length _ _ _) (root3 _ _ _ _) rfl rfl) (by kernel_rfl) (by decide) fun a hF => ?_
  refine d_val 17 0 (op := (Go.Op.assign (Go.Operand.tmp 25))) hF hS (by kernel_rfl) (fun W hW => x_assign rfl) (by kernel_rfl) (by decide) fun a hF => ?_
  refine d_end (by kernel_rfl) (hK3 _ _ ?_)
  refine wp_ret (res_slot hF rfl rfl ⟨rfl, hB⟩)

theorem fewL_le (ls : List (List UInt8)) : (fewL ls).length ≤ 40 := fewI_le _ _
theorem fewL_in (ls : List (List UInt8)) : ∀ s ∈ fewL ls, s.length ≤ 200 := fewI_in _ _
set_option maxRecDepth 100000 in
set_option maxHeartbeats 1600000 in
theorem chainLinks_walk (d1 d2 : List UInt8) (h1 : d1.length = 32) (h2 : d2.length = 32) (ls : List (List UInt8)) (v : Value) (ex : Nat) (bs : List UInt8) (vb : Value) (w0 : World) (hM : RM w0 v ls) (hn : ls.length ≤ 9223372036854775807) (hR : RB ex w0 vb bs) (hlen : bs.length + 4096 ≤ 140737488355328) (hT : Tab w0) :
    Calls Tryd.prog 3 #[dig d1, dig d2, v, vb] w0 fun e w' => e = .returned (.bool true) ∧ Below w0.heap.size w0 w' := by
  obtain ⟨av, cv, rfl, _⟩ := hM.form
  obtain ⟨ab, cb, rfl, _, _⟩ := hR.form
  have hB := Below.refl w0.heap.size w0
  have sB := hB.size
  refine calls_fs 46 [(0, dig d1), (1, dig d2), (2, .slice av ls.length cv), (3, .slice ab bs.length cb)] Tryd.func3 rfl rfl rfl rfl rfl fun a hF => ?_
  refine wp_rs fun K1 hK1 => ?_
  refine s_box (d1.map encB) hF (by decide) rfl rfl fun w2 b4 a eb4 m4 B3 zb4 hF => ?_
  have sB3 := B3.size
  have hB := hB.trans (B3.mono hB.size)
  refine s_box (d2.map encB) hF (by decide) rfl rfl fun w4 b5 a eb5 m5 B5 zb5 hF => ?_
  have sB5 := B5.size
  have hB := hB.trans (B5.mono hB.size)
  have m4 := m4.old B5
  refine s_val hF (x_assign rfl) (by decide) fun a hF => ?_
  refine s_end (hK1 _ _ ?_)
  refine wp_rs fun K2 hK2 => ?_
  refine s_val hF (x_move rfl) (by decide) fun a hF => ?_
  refine s_callR (R := fun v w' => RM w' v (fewL ls)) [_] hF (enters_of Tryd.func6 (by kernel_rfl) rfl) rfl (by decide) (few6 ls _ w4 (hM.below hB) (by omega)) ?_
  rintro vf w6 a hMf B7 hF
  have sB7 := B7.size
  have hB := hB.trans (B7.mono hB.size)
  have m4 := m4.old B7
  have m5 := m5.old B7
  obtain ⟨af, cf, rfl, _⟩ := hMf.form
  have hBf := Below.refl w6.heap.size w6
  have hfl := fewL_le ls
  refine s_val hF (x_assign rfl) (by decide) fun a hF => ?_
  refine s_end (hK2 _ _ ?_)
  refine dk_seq (w6.heap.size) (ops := regOps Tryd.f3 2) (N := 36) (by kernel_rfl) wide_orders (by kernel_rfl) fun w8 hw8 B9 hS K3 hK3 => ?_
  have zw8 : w8.heap.size = w6.heap.size := by rw [hw8]
  have sB9 := B9.size
  have hB := hB.trans (B9.mono hB.size)
  have hBf := hBf.trans (B9.mono hBf.size)
  have m4 := m4.old B9
  have m5 := m5.old B9
  have m4_d := m4
  have m5_d := m5
  have hB_d := hB
  have hBf_d := hBf
  refine d_val 0 11 (op := (Go.Op.load 23 (Go.Operand.tmp 4))) hF hS (by kernel_rfl) (fun W hW => x_loadD h1 (m4_d.kq hW (by omega)) rfl) (by kernel_rfl) (by decide) fun a hF => ?_
  refine d_val 1 12 (op := (Go.Op.move (Go.Operand.tmp 3))) hF hS (by kernel_rfl) (fun W hW => x_move rfl) (by kernel_rfl) (by decide) fun a hF => ?_
  refine d_val 3 14 (op := (Go.Op.load 23 (Go.Operand.tmp 4))) hF hS (by kernel_rfl) (fun W hW => x_loadD h1 (m4_d.kq hW (by omega)) rfl) (by kernel_rfl) (by decide) fun a hF => ?_
  refine d_val 4 15 (op := (Go.Op.move (Go.Operand.tmp 3))) hF hS (by kernel_rfl) (fun W hW => x_move rfl) (by kernel_rfl) (by decide) fun a hF => ?_
  refine d_one 2 (some 13) (Go.Op.call (Go.Call.mk (Go.Callee.value (Go.Operand.func 7)) #[(Go.Operand.tmp 11), (Go.Operand.tmp 12)] #[23, 25])) (by kernel_rfl) (by kernel_rfl) fun ty pos af => ?_
  refine s_callB [_, _] hF (enters_of Tryd.func7 (by kernel_rfl) rfl) rfl (by decide) (link7 d1 h1 _ bs _ w8 (hR.below hB) (by omega) (hT.old hB)) fun w10 a B11 hF => ?_
  have sB11 := B11.size
  have hB := hB.trans (B11.mono hB.size)
  have hBf := hBf.trans (B11.mono hBf.size)
  have m4 := m4.old B11
  have m5 := m5.old B11
  have hS := hS.below B11
  refine s_end ⟨hS, ?_⟩
  refine d_one 5 (some 16) (Go.Op.call (Go.Call.mk (Go.Callee.value (Go.Operand.func 8)) #[(Go.Operand.tmp 14), (Go.Operand.tmp 15)] #[23, 25])) (by kernel_rfl) (by kernel_rfl) fun ty pos af => ?_
  refine s_callB [_, _] hF (enters_of Tryd.func8 (by kernel_rfl) rfl) rfl (by decide) (rlink8 d1 h1 _ bs _ w10 (hR.below hB) (by omega)) fun w12 a B13 hF => ?_
  have sB13 := B13.size
  have hB := hB.trans (B13.mono hB.size)
  have hBf := hBf.trans (B13.mono hBf.size)
  have m4 := m4.old B13
  have m5 := m5.old B13
  have hS := hS.below B13
  refine s_end ⟨hS, ?_⟩
  refine d_val 6 17 (op := (Go.Op.binOp Go.BinOp.eql 23 (Go.Operand.tmp 13) (Go.Operand.tmp 16) 23)) hF hS (by kernel_rfl) (fun W hW => x_eqDT (linkL_length _ _ _) rfl rfl rfl) (by kernel_rfl) (by decide) fun a hF => ?_
  refine d_val 7 18 (op := (Go.Op.move (Go.Operand.tmp 17))) hF hS (by kernel_rfl) (fun W hW => x_move rfl) (by kernel_rfl) (by decide) fun a hF => ?_
  refine d_valg 8 19 18 (j := 7) (want := true) (op := (Go.Op.move (Go.Operand.tmp 3))) hF hS (by kernel_rfl) (by kernel_rfl) rfl (fun W hW => x_move rfl) (by kernel_rfl) (by decide) fun a hF => ?_
  refine d_valg 10 21 18 (j := 7) (want := true) (op := (Go.Op.move (Go.Operand.tmp 3))) hF hS (by kernel_rfl) (by kernel_rfl) rfl (fun W hW => x_move rfl) (by kernel_rfl) (by decide) fun a hF => ?_
  refine d_oneg 9 18 (some 20) (Go.Op.call (Go.Call.mk (Go.Callee.value (Go.Operand.func 9)) #[(Go.Operand.tmp 19)] #[25])) (j := 7) (want := true) hF (by kernel_rfl) (by kernel_rfl) (by kernel_rfl) rfl fun ty pos af => ?_
  refine s_callB [_] hF (enters_of Tryd.func9 (by kernel_rfl) rfl) rfl (by decide) (leaf9 _ bs _ w12 (hR.below hB) (by omega) (hT.old hB)) fun w14 a B15 hF => ?_
  have sB15 := B15.size
  have hB := hB.trans (B15.mono hB.size)
  have hBf := hBf.trans (B15.mono hBf.size)
  have m4 := m4.old B15
  have m5 := m5.old B15
  have hS := hS.below B15
  refine s_end ⟨hS, ?_⟩
  refine d_oneg 11 18 (some 22) (Go.Op.call (Go.Call.mk (Go.Callee.value (Go.Operand.func 10)) #[(Go.Operand.tmp 21)] #[25])) (j := 7) (want := true) hF (by kernel_rfl) (by kernel_rfl) (by kernel_rfl) rfl fun ty pos af => ?_
  refine s_callB [_] hF (enters_of Tryd.func10 (by kernel_rfl) rfl) rfl (by decide) (rleaf10 _ bs _ w14 (hR.below hB) (by omega)) fun w16 a B17 hF => ?_
  have sB17 := B17.size
  have hB := hB.trans (B17.mono hB.size)
  have hBf := hBf.trans (B17.mono hBf.size)
  have m4 := m4.old B17
  have m5 := m5.old B17
  have hS := hS.below B17
  refine s_end ⟨hS, ?_⟩
  refine d_valg 12 23 18 (j := 7) (want := true) (op := (Go.Op.binOp Go.BinOp.eql 23 (Go.Operand.tmp 20) (Go.Operand.tmp 22) 23)) hF hS (by kernel_rfl) (by kernel_rfl) rfl (fun W hW => x_eqDT (leafL_length _ _) rfl rfl rfl) (by kernel_rfl) (by decide) fun a hF => ?_
  refine d_val 13 24 (op := (Go.Op.pick (Go.Operand.tmp 18) (Go.Operand.tmp 23) (Go.Operand.const (Go.Value.bool false)))) hF hS (by kernel_rfl) (fun W hW => x_pick rfl rfl) (by kernel_rfl) (by decide) fun a hF => ?_
  refine d_val 14 25 (op := (Go.Op.move (Go.Operand.tmp 24))) hF hS (by kernel_rfl) (fun W hW => x_move rfl) (by kernel_rfl) (by decide) fun a hF => ?_
  refine d_valg 15 26 25 (j := 14) (want := true) (op := (Go.Op.load 23 (Go.Operand.tmp 4))) hF hS (by kernel_rfl) (by kernel_rfl) rfl (fun W hW => x_loadD h1 (m4_d.kq hW (by omega)) rfl) (by kernel_rfl) (by decide) fun a hF => ?_
  refine d_valg 16 27 25 (j := 14) (want := true) (op := (Go.Op.load 23 (Go.Operand.tmp 5))) hF hS (by kernel_rfl) (by kernel_rfl) rfl (fun W hW => x_loadD h2 (m5_d.kq hW (by omega)) rfl) (by kernel_rfl) (by decide) fun a hF => ?_
  refine d_valg 18 29 25 (j := 14) (want := true) (op := (Go.Op.load 23 (Go.Operand.tmp 4))) hF hS (by kernel_rfl) (by kernel_rfl) rfl (fun W hW => x_loadD h1 (m4_d.kq hW (by omega)) rfl) (by kernel_rfl) (by decide) fun a hF => ?_
  refine d_valg 19 30 25 (j := 14) (want := true) (op := (Go.Op.load 23 (Go.Operand.tmp 5))) hF hS (by kernel_rfl) (by kernel_rfl) rfl (fun W hW => x_loadD h2 (m5_d.kq hW (by omega)) rfl) (by kernel_rfl) (by decide) fun a hF => ?_
  refine d_oneg 17 25 (some 28) (Go.Op.call (Go.Call.mk (Go.Callee.value (Go.Operand.func 11)) #[(Go.Operand.tmp 26), (Go.Operand.tmp 27)] #[23, 23])) (j := 14) (want := true) hF (by kernel_rfl) (by kernel_rfl) (by kernel_rfl) rfl fun ty pos af => ?_
  refine s_callB [_, _] hF (enters_of Tryd.func11 (by kernel_rfl) rfl) rfl (by decide) (node11 d1 d2 h1 h2 w16 (hT.old hB)) fun w18 a B19 hF => ?_
  have sB19 := B19.size
  have hB := hB.trans (B19.mono hB.size)
  have hBf := hBf.trans (B19.mono hBf.size)
  have m4 := m4.old B19
  have m5 := m5.old B19
  have hS := hS.below B19
  refine s_end ⟨hS, ?_⟩
  refine d_oneg 20 25 (some 31) (Go.Op.call (Go.Call.mk (Go.Callee.value (Go.Operand.func 12)) #[(Go.Operand.tmp 29), (Go.Operand.tmp 30)] #[23, 23])) (j := 14) (want := true) hF (by kernel_rfl) (by kernel_rfl) (by kernel_rfl) rfl fun ty pos af => ?_
  refine s_callB [_, _] hF (enters_of Tryd.func12 (by kernel_rfl) rfl) rfl (by decide) (rnode12 d1 d2 h1 h2 w18) fun w20 a B21 hF => ?_
  have sB21 := B21.size
  have hB := hB.trans (B21.mono hB.size)
  have hBf := hBf.trans (B21.mono hBf.size)
  have m4 := m4.old B21
  have m5 := m5.old B21
  have hS := hS.below B21
  refine s_end ⟨hS, ?_⟩
  refine d_valg 21 32 25 (j := 14) (want := true) (op := (Go.Op.binOp Go.BinOp.eql 23 (Go.Operand.tmp 28) (Go.Operand.tmp 31) 23)) hF hS (by kernel_rfl) (by kernel_rfl) rfl (fun W hW => x_eqDT (nodeL_length _ _ _) rfl rfl rfl) (by kernel_rfl) (by decide) fun a hF => ?_
  refine d_val 22 33 (op := (Go.Op.pick (Go.Operand.tmp 25) (Go.Operand.tmp 32) (Go.Operand.const (Go.Value.bool false)))) hF hS (by kernel_rfl) (fun W hW => x_pick rfl rfl) (by kernel_rfl) (by decide) fun a hF => ?_
  refine d_val 23 34 (op := (Go.Op.move (Go.Operand.tmp 33))) hF hS (by kernel_rfl) (fun W hW => x_move rfl) (by kernel_rfl) (by decide) fun a hF => ?_
  refine d_valg 24 35 34 (j := 23) (want := true) (op := (Go.Op.load 23 (Go.Operand.tmp 4))) hF hS (by kernel_rfl) (by kernel_rfl) rfl (fun W hW => x_loadD h1 (m4_d.kq hW (by omega)) rfl) (by kernel_rfl) (by decide) fun a hF => ?_
  refine d_valg 25 36 34 (j := 23) (want := true) (op := (Go.Op.move (Go.Operand.tmp 2))) hF hS (by kernel_rfl) (by kernel_rfl) rfl (fun W hW => x_move rfl) (by kernel_rfl) (by decide) fun a hF => ?_
  refine d_valg 27 38 34 (j := 23) (want := true) (op := (Go.Op.load 23 (Go.Operand.tmp 4))) hF hS (by kernel_rfl) (by kernel_rfl) rfl (fun W hW => x_loadD h1 (m4_d.kq hW (by omega)) rfl) (by kernel_rfl) (by decide) fun a hF => ?_
  refine d_valg 28 39 34 (j := 23) (want := true) (op := (Go.Op.move (Go.Operand.tmp 2))) hF hS (by kernel_rfl) (by kernel_rfl) rfl (fun W hW => x_move rfl) (by kernel_rfl) (by decide) fun a hF => ?_
  refine d_oneg 26 34 (some 37) (Go.Op.call (Go.Call.mk (Go.Callee.value (Go.Operand.func 13)) #[(Go.Operand.tmp 35), (Go.Operand.tmp 36)] #[23, 24])) (j := 23) (want := true) hF (by kernel_rfl) (by kernel_rfl) (by kernel_rfl) rfl fun ty pos af => ?_
  refine s_callB [_, _] hF (enters_of Tryd.func13 (by kernel_rfl) rfl) rfl (by decide) (fold13 d1 h1 (fewL ls) _ w20 (hMf.below hBf) (by omega) (fewL_in ls) (hT.old hB)) fun w22 a B23 hF => ?_
  have sB23 := B23.size
  have hB := hB.trans (B23.mono hB.size)
  have hBf := hBf.trans (B23.mono hBf.size)
  have m4 := m4.old B23
  have m5 := m5.old B23
  have hS := hS.below B23
  refine s_end ⟨hS, ?_⟩
  refine d_oneg 29 34 (some 40) (Go.Op.call (Go.Call.mk (Go.Callee.value (Go.Operand.func 14)) #[(Go.Operand.tmp 38), (Go.Operand.tmp 39)] #[23, 24])) (j := 23) (want := true) hF (by kernel_rfl) (by kernel_rfl) (by kernel_rfl) rfl fun ty pos af => ?_
  refine s_callB [_, _] hF (enters_of Tryd.func14 (by kernel_rfl) rfl) rfl (by decide) (rfold14 d1 h1 (fewL ls) _ w22 (hMf.below hBf) (by omega) (fewL_in ls)) fun w24 a B25 hF => ?_
  have sB25 := B25.size
  have hB := hB.trans (B25.mono hB.size)
  have hBf := hBf.trans (B25.mono hBf.size)
  have m4 := m4.old B25
  have m5 := m5.old B25
  have hS := hS.below B25
  refine s_end ⟨hS, ?_⟩
  refine d_valg 30 41 34 (j := 23) (want := true) (op := (Go.Op.binOp Go.BinOp.eql 23 (Go.Operand.tmp 37) (Go.Operand.tmp 40) 23)) hF hS (by kernel_rfl) (by kernel_rfl) rfl (fun W hW => x_eqDT (foldL_length _ _ _ h1) rfl rfl rfl) (by kernel_rfl) (by decide) fun a hF => ?_
  refine d_val 31 42 (op := (Go.Op.pick (Go.Operand.tmp 34) (Go.Operand.tmp 41) (Go.Operand.const (Go.Value.bool false)))) hF hS (by kernel_rfl) (fun W hW => x_pick rfl rfl) (by kernel_rfl) (by decide) fun a hF => ?_
  refine d_val 32 43 (op := (Go.Op.move (Go.Operand.tmp 42))) hF hS (by kernel_rfl) (fun W hW => x_move rfl) (by kernel_rfl) (by decide) fun a hF => ?_
  refine d_oneg 33 43 (some 44) (Go.Op.call (Go.Call.mk (Go.Callee.value (Go.Operand.func 15)) #[] #[])) (j := 32) (want := true) hF (by kernel_rfl) (by kernel_rfl) (by kernel_rfl) rfl fun ty pos af => ?_
  refine s_callB [] hF (enters_of Tryd.func15 (by kernel_rfl) rfl) rfl (by decide) (awake15 w24 (hT.old hB)) fun w26 a B27 hF => ?_
  have sB27 := B27.size
  have hB := hB.trans (B27.mono hB.size)
  have hBf := hBf.trans (B27.mono hBf.size)
  have m4 := m4.old B27
  have m5 := m5.old B27
  have hS := hS.below B27
  refine s_end ⟨hS, ?_⟩
  refine d_val 34 45 (op := (Go.Op.pick (Go.Operand.tmp 43) (Go.Operand.tmp 44) (Go.Operand.const (Go.Value.bool false)))) hF hS (by kernel_rfl) (fun W hW => x_pick rfl rfl) (by kernel_rfl) (by decide) fun a hF => ?_
  refine d_val 35 8 (op := (Go.Op.assign (Go.Operand.tmp 45))) hF hS (by kernel_rfl) (fun W hW => x_assign rfl) (by kernel_rfl) (by decide) fun a hF => ?_
  refine d_end (by kernel_rfl) (hK3 _ _ ?_)
  refine wp_ret (res_slot hF rfl rfl ⟨rfl, hB⟩)
end Go.Proofs.YtbmglinkfdoegaaDoor
