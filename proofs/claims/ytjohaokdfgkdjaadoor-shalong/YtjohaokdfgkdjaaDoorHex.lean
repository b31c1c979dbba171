/- Hex, digit, Parse. -/
import Derived.Test.YtjohaokdfgkdjaaDoorSums
import Derived.Test.YtjohaokdfgkdjaaDoorPure3
namespace Go.Proofs.YtjohaokdfgkdjaaDoor
open Go.RowKit Go.Shelf
set_option linter.unusedVariables false
set_option linter.unusedSimpArgs false

theorem under24 : Tryd.prog.underlying 24 = some (.array 32 5) := by kernel_rfl
/-- The digest is told as digits. -/
def St (bs : List UInt8) : Value := .string ⟨bs.toArray⟩

set_option maxRecDepth 100000 in
set_option maxHeartbeats 400000 in
theorem hex10 (ds : List UInt8) (hds : ds.length = 32) (w0 : World) : Calls Tryd.prog 10 #[.agg (ds.map encB).toArray] w0 fun e w' => e = .returned (.string ⟨(hexL ds).toArray⟩) ∧ Below w0.heap.size w0 w' := by
  have hl32 : (ds.map encB).length = 32 := by rw [List.length_map, hds]
  refine calls_fs 27 [(0, .agg (ds.map encB).toArray)] Tryd.func10 rfl rfl rfl rfl rfl fun a hF => ?_
  refine wp_rs fun K1 hK1 => ?_
  refine s_box (ds.map encB) hF (by decide) rfl rfl fun w1 b1 a e1 m1 B1 z1 hF => ?_
  refine s_val hF (x_assign rfl) (by decide) fun a hF => ?_
  refine s_end (hK1 _ _ ?_)
  refine wp_rs fun K2 hK2 => ?_
  refine s_alloc hF (by decide) zero45 fun w2 b3 a e3 m3 B2 z2 hF => ?_
  refine s_end (hK2 _ _ ?_)
  refine wp_seq_k fun K3 hK3 => ?_
  refine wp_rs fun K4 hK4 => ?_
  refine s_val hF (x_load rfl (m_loadW (by rw [hl32]; exact wide24) (m1.old B2))) (by decide) fun a hF => ?_
  refine s_val hF (x_move rfl) (by decide) fun a hF => ?_
  refine s_end (hK4 _ _ ?_)
  refine wp_block ?_
  refine wp_up 32 (fun i a w => Blk w b3 45 ((pad 64 0 (hexL (ds.take i))).map encB) ∧ Below w0.heap.size w0 w ∧ Fs 27 a [(7, .int .i64 (i : Int)), (6, .agg (ds.map encB).toArray), (3, .pointer (some ⟨b3, 0, none⟩))]) ⟨by rw [List.take_zero, hexL, pad_nil]; exact m3, B1.trans (B2.mono (by omega)), hF.sub _ rfl⟩ ?_
  clear hF m3
  rintro i a w hi ⟨m3, hB, hF⟩ K' hK'
  have hl : (hexL (ds.take i)).length = 2 * i := by rw [hexL_length, List.length_take]; omega
  refine wp_rs fun K5 hK5 => ?_
  refine s_val hF (x_lss rfl rfl rfl) (by decide) fun a hF => ?_
  refine s_end (hK5 _ _ ?_)
  refine wp_seq_k fun K6 hK6 => ?_
  refine wp_iff hF rfl (fun hc8 => ?_) (fun hc8 => ?_)
  · refine wp_skip (hK6 _ _ ?_)
    refine wp_seq_k fun K7 hK7 => ?_
    refine wp_block ?_
    refine wp_rs fun K8 hK8 => ?_
    refine s_val hF (x_move rfl) (by decide) fun a hF => ?_
    refine s_val hF (x_ix (v := encB (ds.getD i 0)) rfl rfl (m_ix i under24 flat5 rfl hl32 (by rw [List.getElem?_map, getD_get ds i 0 (by omega)]; rfl))) (by decide) fun a hF => ?_
    refine s_val hF (x_assign rfl) (by decide) fun a hF => ?_
    refine s_val hF (x_assign rfl) (by decide) fun a hF => ?_
    refine s_end (hK8 _ _ ?_)
    refine wp_rs fun K9 hK9 => ?_
    refine s_val hF (x_move rfl) (by decide) fun a hF => ?_
    refine s_val hF (x_muln (2 * i) (by omega) (by omega) rfl rfl) (by decide) fun a hF => ?_
    refine s_val hF (x_move rfl) (by decide) fun a hF => ?_
    refine s_val hF (x_shr8 4 rfl (by decide) rfl rfl) (by decide) fun a hF => ?_
    refine s_val hF (x_ix (v := encB (dg (ds.getD i 0 >>> UInt8.ofNat 4))) rfl rfl (m_ixstr _ Tryd.underlying9 rfl (dg_hi _))) (by decide) fun a hF => ?_
    refine s_val hF (x_ixa rfl rfl (m_ixa0 (2 * i) Tryd.underlying45 (size_flat flat5) (by omega) (by omega))) (by decide) fun a hF => ?_
    refine s_put hF rfl rfl flat5 m3 (by rw [len_padB (by omega)]; omega) rfl fun w3 m4 o3 => ?_
    rw [set_padB _ _ hl (by omega)] at m4
    refine s_end (hK9 _ _ ?_)
    refine wp_region_lit ?_
    refine s_val hF (x_move rfl) (by decide) fun a hF => ?_
    refine s_val hF (x_muln (2 * i) (by omega) (by omega) rfl rfl) (by decide) fun a hF => ?_
    refine s_val hF (x_addn (2 * i + 1) (by omega) (by omega) rfl rfl) (by decide) fun a hF => ?_
    refine s_val hF (x_move rfl) (by decide) fun a hF => ?_
    refine s_val hF (x_and8 (q := 15) rfl rfl) (by decide) fun a hF => ?_
    refine s_val hF (x_ix (v := encB (dg (ds.getD i 0 &&& 15))) rfl rfl (m_ixstr _ Tryd.underlying9 rfl (dg_lo _))) (by decide) fun a hF => ?_
    refine s_val hF (x_ixa rfl rfl (m_ixa0 (2 * i + 1) Tryd.underlying45 (size_flat flat5) (by omega) (by omega))) (by decide) fun a hF => ?_
    refine s_put hF rfl rfl flat5 m4 (by rw [len_padB (by simp [hl]; omega)]; omega) rfl fun w4 m5 o4 => ?_
    rw [set_padB _ _ (by simp [hl]) (by omega), ← hexL_take ds i (by omega)] at m5
    refine s_end (hK7 _ _ ?_)
    refine wp_region_lit ?_
    refine s_val hF (x_addn (i + 1) (by omega) (by omega) rfl rfl) (by decide) fun a hF => ?_
    refine s_val hF (x_move rfl) (by decide) fun a hF => ?_
    refine s_end (hK' _ _ (by omega) ⟨m5, (hB.trans (o3.below (by omega))).trans (o4.below (by omega)), hF.sub _ rfl⟩)
  · obtain rfl : i = 32 := by omega
    have e64 : (hexL (ds.take 32)).length = 64 := hl
    rw [pad_full 64 0 _ e64, List.take_of_length_le (by omega)] at m3
    rw [List.take_of_length_le (by omega)] at e64
    have hR := RB.blk (ex := b3 + 1) m3 (by omega)
    rw [e64] at hR
    refine wp_exit (hK3 _ _ ?_)
    refine wp_rs fun K10 hK10 => ?_
    refine s_val hF (x_slice (vlo := none) (vhi := none) (vmx := none) rfl rfl rfl rfl (m_sliceAll Tryd.underlying45 (size_flat flat5))) (by decide) fun a hF => ?_
    refine s_val hF (x_str (ex := b3 + 1) Tryd.underlying22 Tryd.underlying5 Tryd.underlying9 hR rfl) (by decide) fun a hF => ?_
    refine s_val hF (x_assign rfl) (by decide) fun a hF => ?_
    refine s_end (hK10 _ _ ?_)
    refine wp_ret (res_slot hF rfl rfl ⟨rfl, hB⟩)

theorem digit22a (c : UInt8) (w : World) (h1 : 48 ≤ c.toNat) (h2 : c.toNat ≤ 57) : Calls Tryd.prog 22 #[encB c] w fun e w' => e = .returned (.tuple #[encB (c - 48), .bool true]) ∧ w' = w := by
  refine calls_fs 23 [(0, encB c)] Tryd.func22 rfl rfl rfl rfl rfl fun a hF => ?_
  refine wp_rs fun K1 hK1 => ?_
  refine s_val hF (x_assign (v := encB 0) rfl) (by decide) fun a hF => ?_
  refine s_val hF (x_assign rfl) (by decide) fun a hF => ?_
  refine s_end (hK1 _ _ ?_)
  refine wp_seq_k fun K2 hK2 => ?_
  refine wp_block ?_
  refine wp_rs fun K3 hK3 => ?_
  refine s_val hF (x_move rfl) (by decide) fun a hF => ?_
  refine s_val hF (x_leq (b := true) (decide_eq_true (by omega)) rfl rfl) (by decide) fun a hF => ?_
  refine s_val hF (x_move rfl) (by decide) fun a hF => ?_
  refine s_grd 7 hF rfl rfl rfl ?_
  refine s_val hF (x_move rfl) (by decide) fun a hF => ?_
  refine s_grd 7 hF rfl rfl rfl ?_
  refine s_val hF (x_leq (b := true) (decide_eq_true (by omega)) rfl rfl) (by decide) fun a hF => ?_
  refine s_val hF (x_pick rfl rfl) (by decide) fun a hF => ?_
  refine s_val hF (x_assign rfl) (by decide) fun a hF => ?_
  refine s_end (hK3 _ _ ?_)
  refine wp_if hF rfl ?_

  refine wp_rs fun K4 hK4 => ?_
  refine s_val hF (x_move rfl) (by decide) fun a hF => ?_
  refine s_val hF (x_sub8 (q := 48) rfl rfl) (by decide) fun a hF => ?_
  refine s_val hF (x_assign rfl) (by decide) fun a hF => ?_
  refine s_val hF (x_assign rfl) (by decide) fun a hF => ?_
  refine s_end (hK4 _ _ ?_)
  refine wp_ret (inb_ret (then_ret (res_two hF rfl rfl rfl ⟨rfl, rfl⟩)))

theorem digit22b (c : UInt8) (w : World) (h1 : c.toNat < 48) : Calls Tryd.prog 22 #[encB c] w fun e w' => e = .returned (.tuple #[encB (0), .bool false]) ∧ w' = w := by
  refine calls_fs 23 [(0, encB c)] Tryd.func22 rfl rfl rfl rfl rfl fun a hF => ?_
  refine wp_rs fun K1 hK1 => ?_
  refine s_val hF (x_assign (v := encB 0) rfl) (by decide) fun a hF => ?_
  refine s_val hF (x_assign rfl) (by decide) fun a hF => ?_
  refine s_end (hK1 _ _ ?_)
  refine wp_seq_k fun K2 hK2 => ?_
  refine wp_block ?_
  refine wp_rs fun K3 hK3 => ?_
  refine s_val hF (x_move rfl) (by decide) fun a hF => ?_
  refine s_val hF (x_leq (b := false) (decide_eq_false (by omega)) rfl rfl) (by decide) fun a hF => ?_
  refine s_val hF (x_move rfl) (by decide) fun a hF => ?_
  refine s_grdn 7 hF rfl rfl (by decide) fun a hF => ?_
  refine s_grdn 7 hF rfl rfl (by decide) fun a hF => ?_
  refine s_val hF (x_pick rfl rfl) (by decide) fun a hF => ?_
  refine s_val hF (x_assign rfl) (by decide) fun a hF => ?_
  refine s_end (hK3 _ _ ?_)
  refine wp_if hF rfl ?_

  refine wp_rs fun K4 hK4 => ?_
  refine s_val hF (x_move rfl) (by decide) fun a hF => ?_
  refine s_val hF (x_leq (b := false) (decide_eq_false (by omega)) rfl rfl) (by decide) fun a hF => ?_
  refine s_val hF (x_move rfl) (by decide) fun a hF => ?_
  refine s_grdn 16 hF rfl rfl (by decide) fun a hF => ?_
  refine s_grdn 16 hF rfl rfl (by decide) fun a hF => ?_
  refine s_val hF (x_pick rfl rfl) (by decide) fun a hF => ?_
  refine s_val hF (x_assign rfl) (by decide) fun a hF => ?_
  refine s_end (hK4 _ _ ?_)
  refine wp_if hF rfl ?_

  refine wp_skip (hK2 _ _ ?_)
  refine wp_rs fun K5 hK5 => ?_
  refine s_val hF (x_assign (v := encB 0) rfl) (by decide) fun a hF => ?_
  refine s_val hF (x_assign rfl) (by decide) fun a hF => ?_
  refine s_end (hK5 _ _ ?_)
  refine wp_ret (res_two hF rfl rfl rfl ⟨rfl, rfl⟩)

theorem digit22c (c : UInt8) (w : World) (h1 : 57 < c.toNat) (h2 : c.toNat < 97) : Calls Tryd.prog 22 #[encB c] w fun e w' => e = .returned (.tuple #[encB (0), .bool false]) ∧ w' = w := by
  refine calls_fs 23 [(0, encB c)] Tryd.func22 rfl rfl rfl rfl rfl fun a hF => ?_
  refine wp_rs fun K1 hK1 => ?_
  refine s_val hF (x_assign (v := encB 0) rfl) (by decide) fun a hF => ?_
  refine s_val hF (x_assign rfl) (by decide) fun a hF => ?_
  refine s_end (hK1 _ _ ?_)
  refine wp_seq_k fun K2 hK2 => ?_
  refine wp_block ?_
  refine wp_rs fun K3 hK3 => ?_
  refine s_val hF (x_move rfl) (by decide) fun a hF => ?_
  refine s_val hF (x_leq (b := true) (decide_eq_true (by omega)) rfl rfl) (by decide) fun a hF => ?_
  refine s_val hF (x_move rfl) (by decide) fun a hF => ?_
  refine s_grd 7 hF rfl rfl rfl ?_
  refine s_val hF (x_move rfl) (by decide) fun a hF => ?_
  refine s_grd 7 hF rfl rfl rfl ?_
  refine s_val hF (x_leq (b := false) (decide_eq_false (by omega)) rfl rfl) (by decide) fun a hF => ?_
  refine s_val hF (x_pick rfl rfl) (by decide) fun a hF => ?_
  refine s_val hF (x_assign rfl) (by decide) fun a hF => ?_
  refine s_end (hK3 _ _ ?_)
  refine wp_if hF rfl ?_

  refine wp_rs fun K4 hK4 => ?_
  refine s_val hF (x_move rfl) (by decide) fun a hF => ?_
  refine s_val hF (x_leq (b := false) (decide_eq_false (by omega)) rfl rfl) (by decide) fun a hF => ?_
  refine s_val hF (x_move rfl) (by decide) fun a hF => ?_
  refine s_grdn 16 hF rfl rfl (by decide) fun a hF => ?_
  refine s_grdn 16 hF rfl rfl (by decide) fun a hF => ?_
  refine s_val hF (x_pick rfl rfl) (by decide) fun a hF => ?_
  refine s_val hF (x_assign rfl) (by decide) fun a hF => ?_
  refine s_end (hK4 _ _ ?_)
  refine wp_if hF rfl ?_

  refine wp_skip (hK2 _ _ ?_)
  refine wp_rs fun K5 hK5 => ?_
  refine s_val hF (x_assign (v := encB 0) rfl) (by decide) fun a hF => ?_
  refine s_val hF (x_assign rfl) (by decide) fun a hF => ?_
  refine s_end (hK5 _ _ ?_)
  refine wp_ret (res_two hF rfl rfl rfl ⟨rfl, rfl⟩)

theorem digit22d (c : UInt8) (w : World) (h1 : 97 ≤ c.toNat) (h2 : c.toNat ≤ 102) : Calls Tryd.prog 22 #[encB c] w fun e w' => e = .returned (.tuple #[encB (c - 97 + 10), .bool true]) ∧ w' = w := by
  refine calls_fs 23 [(0, encB c)] Tryd.func22 rfl rfl rfl rfl rfl fun a hF => ?_
  refine wp_rs fun K1 hK1 => ?_
  refine s_val hF (x_assign (v := encB 0) rfl) (by decide) fun a hF => ?_
  refine s_val hF (x_assign rfl) (by decide) fun a hF => ?_
  refine s_end (hK1 _ _ ?_)
  refine wp_seq_k fun K2 hK2 => ?_
  refine wp_block ?_
  refine wp_rs fun K3 hK3 => ?_
  refine s_val hF (x_move rfl) (by decide) fun a hF => ?_
  refine s_val hF (x_leq (b := true) (decide_eq_true (by omega)) rfl rfl) (by decide) fun a hF => ?_
  refine s_val hF (x_move rfl) (by decide) fun a hF => ?_
  refine s_grd 7 hF rfl rfl rfl ?_
  refine s_val hF (x_move rfl) (by decide) fun a hF => ?_
  refine s_grd 7 hF rfl rfl rfl ?_
  refine s_val hF (x_leq (b := false) (decide_eq_false (by omega)) rfl rfl) (by decide) fun a hF => ?_
  refine s_val hF (x_pick rfl rfl) (by decide) fun a hF => ?_
  refine s_val hF (x_assign rfl) (by decide) fun a hF => ?_
  refine s_end (hK3 _ _ ?_)
  refine wp_if hF rfl ?_

  refine wp_rs fun K4 hK4 => ?_
  refine s_val hF (x_move rfl) (by decide) fun a hF => ?_
  refine s_val hF (x_leq (b := true) (decide_eq_true (by omega)) rfl rfl) (by decide) fun a hF => ?_
  refine s_val hF (x_move rfl) (by decide) fun a hF => ?_
  refine s_grd 16 hF rfl rfl rfl ?_
  refine s_val hF (x_move rfl) (by decide) fun a hF => ?_
  refine s_grd 16 hF rfl rfl rfl ?_
  refine s_val hF (x_leq (b := true) (decide_eq_true (by omega)) rfl rfl) (by decide) fun a hF => ?_
  refine s_val hF (x_pick rfl rfl) (by decide) fun a hF => ?_
  refine s_val hF (x_assign rfl) (by decide) fun a hF => ?_
  refine s_end (hK4 _ _ ?_)
  refine wp_if hF rfl ?_

  refine wp_rs fun K5 hK5 => ?_
  refine s_val hF (x_move rfl) (by decide) fun a hF => ?_
  refine s_val hF (x_sub8 (q := 97) rfl rfl) (by decide) fun a hF => ?_
  refine s_val hF (x_add8 (q := 10) rfl rfl) (by decide) fun a hF => ?_
  refine s_val hF (x_assign rfl) (by decide) fun a hF => ?_
  refine s_val hF (x_assign rfl) (by decide) fun a hF => ?_
  refine s_end (hK5 _ _ ?_)
  refine wp_ret (inb_ret (then_ret (res_two hF rfl rfl rfl ⟨rfl, rfl⟩)))

theorem digit22e (c : UInt8) (w : World) (h1 : 102 < c.toNat) : Calls Tryd.prog 22 #[encB c] w fun e w' => e = .returned (.tuple #[encB (0), .bool false]) ∧ w' = w := by
  refine calls_fs 23 [(0, encB c)] Tryd.func22 rfl rfl rfl rfl rfl fun a hF => ?_
  refine wp_rs fun K1 hK1 => ?_
  refine s_val hF (x_assign (v := encB 0) rfl) (by decide) fun a hF => ?_
  refine s_val hF (x_assign rfl) (by decide) fun a hF => ?_
  refine s_end (hK1 _ _ ?_)
  refine wp_seq_k fun K2 hK2 => ?_
  refine wp_block ?_
  refine wp_rs fun K3 hK3 => ?_
  refine s_val hF (x_move rfl) (by decide) fun a hF => ?_
  refine s_val hF (x_leq (b := true) (decide_eq_true (by omega)) rfl rfl) (by decide) fun a hF => ?_
  refine s_val hF (x_move rfl) (by decide) fun a hF => ?_
  refine s_grd 7 hF rfl rfl rfl ?_
  refine s_val hF (x_move rfl) (by decide) fun a hF => ?_
  refine s_grd 7 hF rfl rfl rfl ?_
  refine s_val hF (x_leq (b := false) (decide_eq_false (by omega)) rfl rfl) (by decide) fun a hF => ?_
  refine s_val hF (x_pick rfl rfl) (by decide) fun a hF => ?_
  refine s_val hF (x_assign rfl) (by decide) fun a hF => ?_
  refine s_end (hK3 _ _ ?_)
  refine wp_if hF rfl ?_

  refine wp_rs fun K4 hK4 => ?_
  refine s_val hF (x_move rfl) (by decide) fun a hF => ?_
  refine s_val hF (x_leq (b := true) (decide_eq_true (by omega)) rfl rfl) (by decide) fun a hF => ?_
  refine s_val hF (x_move rfl) (by decide) fun a hF => ?_
  refine s_grd 16 hF rfl rfl rfl ?_
  refine s_val hF (x_move rfl) (by decide) fun a hF => ?_
  refine s_grd 16 hF rfl rfl rfl ?_
  refine s_val hF (x_leq (b := false) (decide_eq_false (by omega)) rfl rfl) (by decide) fun a hF => ?_
  refine s_val hF (x_pick rfl rfl) (by decide) fun a hF => ?_
  refine s_val hF (x_assign rfl) (by decide) fun a hF => ?_
  refine s_end (hK4 _ _ ?_)
  refine wp_if hF rfl ?_

  refine wp_skip (hK2 _ _ ?_)
  refine wp_rs fun K5 hK5 => ?_
  refine s_val hF (x_assign (v := encB 0) rfl) (by decide) fun a hF => ?_
  refine s_val hF (x_assign rfl) (by decide) fun a hF => ?_
  refine s_end (hK5 _ _ ?_)
  refine wp_ret (res_two hF rfl rfl rfl ⟨rfl, rfl⟩)

theorem digit22 (c : UInt8) (w : World) : Calls Tryd.prog 22 #[encB c] w fun e w' => e = .returned (.tuple #[encB (dv c), .bool (isD c)]) ∧ w' = w := by
  rcases (show c.toNat < 48 ∨ (48 ≤ c.toNat ∧ c.toNat ≤ 57) ∨ (57 < c.toNat ∧ c.toNat < 97) ∨ (97 ≤ c.toNat ∧ c.toNat ≤ 102) ∨ 102 < c.toNat by omega) with h | ⟨h, h'⟩ | ⟨h, h'⟩ | ⟨h, h'⟩ | h
  · have e1 : dv c = 0 := by unfold dv; rw [if_neg (by omega), if_neg (by omega)]
    have e2 : isD c = false := by simp [isD]; omega
    rw [e1, e2]; exact digit22b c w h
  · have e1 : dv c = c - 48 := by unfold dv; rw [if_pos (by omega)]
    have e2 : isD c = true := by simp [isD]; omega
    rw [e1, e2]; exact digit22a c w h h'
  · have e1 : dv c = 0 := by unfold dv; rw [if_neg (by omega), if_neg (by omega)]
    have e2 : isD c = false := by simp [isD]; omega
    rw [e1, e2]; exact digit22c c w h h'
  · have e1 : dv c = c - 97 + 10 := by unfold dv; rw [if_neg (by omega), if_pos (by omega)]
    have e2 : isD c = true := by simp [isD]; omega
    rw [e1, e2]; exact digit22d c w h h'
  · have e1 : dv c = 0 := by unfold dv; rw [if_neg (by omega), if_neg (by omega)]
    have e2 : isD c = false := by simp [isD]; omega
    rw [e1, e2]; exact digit22e c w h

theorem s_tup1 {P : Program} {n d : Nat} {l : List (Nat × Value)} {w : World} {a : Act} {ops : Array Oper} {Q : Exit → Act → World → Prop} {rest : List Oper} {ty : TypeId} {pos : String} {af : Array Edge} {f : FuncId} {ts : Array TypeId} {x : Operand} {u1 v : Value} (hF : Fs n a l) (hent : Enters P f) (hx : ov l x = some u1) (hd : d < n) (hC : Calls P f #[u1] w fun e w' => e = .returned v ∧ w' = w)
    (h : ∀ a', Fs n a' ((d, v) :: l) → wpList P ops Q rest a' w) : wpList P ops Q (⟨some d, .call { callee := .value (.func f), args := #[x], argTypes := ts }, ty, pos, af, none⟩ :: rest) a w :=
  s_call1 (R := fun u w' => u = v ∧ w' = w) hF hent hx hd (hC.mono fun e w' he => ⟨v, he.1, rfl, he.2⟩) (by rintro _ _ a' ⟨rfl, rfl⟩ hF'; exact h a' hF')

/-- What Parse tells of a text. -/
def parseOk (s : List UInt8) : Bool := decide (s.length = 64) && s.all isD
def parseV (s : List UInt8) : List UInt8 := if parseOk s then unhex s else List.replicate 32 0

set_option maxRecDepth 100000 in
set_option maxHeartbeats 800000 in
theorem parse14 (s : List UInt8) (w0 : World) : Calls Tryd.prog 14 #[.string ⟨s.toArray⟩] w0 fun e w' => e = .returned (.tuple #[.agg ((parseV s).map encB).toArray, .bool (parseOk s)]) ∧ Below w0.heap.size w0 w' := by
  refine calls_fs 49 [(0, .string ⟨s.toArray⟩)] Tryd.func14 rfl rfl rfl rfl rfl fun a hF => ?_
  refine wp_rs fun K1 hK1 => ?_
  refine s_alloc hF (by decide) zero24 fun w1 b2 a e2 m2 B1 z1 hF => ?_
  refine s_val hF (x_assign rfl) (by decide) fun a hF => ?_
  refine s_end (hK1 _ _ ?_)
  refine wp_rs fun K2 hK2 => ?_
  refine s_alloc hF (by decide) zero24 fun w2 b4 a e4 m4 B2 z2 hF => ?_
  refine s_end (hK2 _ _ ?_)
  refine wp_seq_k fun K3 hK3 => ?_
  refine wp_rs fun K4 hK4 => ?_
  refine s_val hF (x_move rfl) (by decide) fun a hF => ?_
  refine s_val hF (x_lenS Tryd.underlying9 rfl) (by decide) fun a hF => ?_
  refine s_val hF (x_neq (b := decide (s.length ≠ 64)) (by congr 1; simp [ByteArray.size]; omega) rfl rfl) (by decide) fun a hF => ?_
  refine s_end (hK4 _ _ ?_)
  refine wp_iff hF rfl (fun hc12 => ?_) (fun hc12 => ?_)
  · have hno : parseOk s = false := by simp [parseOk]; intro h; exact absurd h hc12
    refine wp_rs fun K5 hK5 => ?_
    refine s_val hF (x_build (parts := []) (vs := []) rfl (built24 _)) (by decide) fun a hF => ?_
    refine s_putW hF rfl rfl (size_wide wide24) (m2.old B2) rfl (oneB _) fun w9 m9 o9 => ?_
    refine s_val hF (x_assign rfl) (by decide) fun a hF => ?_
    refine s_end (hK5 _ _ ?_)
    refine wp_ret (then_ret (res_ct hF rfl rfl m9 wide24 rfl ⟨by rw [parseV, hno, if_neg (by decide)], (B1.trans (B2.mono (by omega))).trans (o9.below (by omega))⟩))
  · refine wp_skip (hK3 _ _ ?_)
    refine wp_seq_k fun K6 hK6 => ?_
    refine wp_rs fun K7 hK7 => ?_
    refine s_val hF (x_move rfl) (by decide) fun a hF => ?_
    refine s_end (hK7 _ _ ?_)
    refine wp_block ?_
    have h64 : s.length = 64 := by simpa using hc12
    refine wp_up 32 (fun i a w => (s.take (2 * i)).all isD = true ∧ Blk w b4 24 ((pad 32 0 (unhex (s.take (2 * i)))).map encB) ∧ Blk w b2 24 ((List.replicate 32 (0 : UInt8)).map encB) ∧ Below w0.heap.size w0 w ∧ Fs 49 a [(14, .int .i64 (i : Int)), (0, .string ⟨s.toArray⟩), (2, .pointer (some ⟨b2, 0, none⟩)), (4, .pointer (some ⟨b4, 0, none⟩))]) ⟨rfl, by rw [Nat.mul_zero, List.take_zero, show unhex [] = [] from rfl, pad_nil]; exact m4, m2.old B2, B1.trans (B2.mono (by omega)), hF.sub _ rfl⟩ ?_
    clear hF m4 m2
    rintro i a w hi ⟨hd, m4, m2, hB, hF⟩ K' hK'
    have hl : 2 * i ≤ 64 → (unhex (s.take (2 * i))).length = i := fun h => unhex_length i _ (by rw [List.length_take]; omega)
    have hl := hl (by omega)
    refine wp_rs fun K8 hK8 => ?_
    refine s_val hF (x_lss rfl rfl rfl) (by decide) fun a hF => ?_
    refine s_end (hK8 _ _ ?_)
    refine wp_seq_k fun K9 hK9 => ?_
    refine wp_iff hF rfl (fun hc15 => ?_) (fun hc15 => ?_)
    · refine wp_skip (hK9 _ _ ?_)
      refine wp_seq_k fun K10 hK10 => ?_
      refine wp_block ?_
      refine wp_rs fun K11 hK11 => ?_
      refine s_val hF (x_move rfl) (by decide) fun a hF => ?_
      refine s_val hF (x_assign rfl) (by decide) fun a hF => ?_
      refine s_end (hK11 _ _ ?_)
      refine wp_rs fun K12 hK12 => ?_
      refine s_val hF (x_move rfl) (by decide) fun a hF => ?_
      refine s_val hF (x_move rfl) (by decide) fun a hF => ?_
      refine s_val hF (x_muln (2 * i) (by omega) (by omega) rfl rfl) (by decide) fun a hF => ?_
      refine s_val hF (x_ix (v := encB (s.getD (2 * i) 0)) rfl rfl (m_ixstr (2 * i) Tryd.underlying9 (by omega) (by show s[2 * i]? = _; exact getD_get s _ 0 (by omega)))) (by decide) fun a hF => ?_
      refine s_tup1 hF (enters_of Tryd.func22 (by kernel_rfl) rfl) rfl (by decide) (digit22 (s.getD (2 * i) 0) w) fun a hF => ?_
      refine s_val hF (x_move rfl) (by decide) fun a hF => ?_
      refine s_val hF (x_ext rfl rfl) (by decide) fun a hF => ?_
      refine s_val hF (x_ext rfl rfl) (by decide) fun a hF => ?_
      refine s_val hF (x_assign rfl) (by decide) fun a hF => ?_
      refine s_val hF (x_assign rfl) (by decide) fun a hF => ?_
      refine s_end (hK12 _ _ ?_)
      refine wp_rs fun K13 hK13 => ?_
      refine s_val hF (x_move rfl) (by decide) fun a hF => ?_
      refine s_val hF (x_move rfl) (by decide) fun a hF => ?_
      refine s_val hF (x_muln (2 * i) (by omega) (by omega) rfl rfl) (by decide) fun a hF => ?_
      refine s_val hF (x_addn (2 * i + 1) (by omega) (by omega) rfl rfl) (by decide) fun a hF => ?_
      refine s_val hF (x_ix (v := encB (s.getD (2 * i + 1) 0)) rfl rfl (m_ixstr (2 * i + 1) Tryd.underlying9 (by omega) (by show s[2 * i + 1]? = _; exact getD_get s _ 0 (by omega)))) (by decide) fun a hF => ?_
      refine s_tup1 hF (enters_of Tryd.func22 (by kernel_rfl) rfl) rfl (by decide) (digit22 (s.getD (2 * i + 1) 0) w) fun a hF => ?_
      refine s_val hF (x_move rfl) (by decide) fun a hF => ?_
      refine s_val hF (x_ext rfl rfl) (by decide) fun a hF => ?_
      refine s_val hF (x_ext rfl rfl) (by decide) fun a hF => ?_
      refine s_val hF (x_assign rfl) (by decide) fun a hF => ?_
      refine s_val hF (x_assign rfl) (by decide) fun a hF => ?_
      refine s_end (hK13 _ _ ?_)
      refine wp_seq_k fun K14 hK14 => ?_
      cases h1 : isD (s.getD (2 * i) 0) with
      | false =>
        rw [h1] at hF
        have hno : parseOk s = false := by
          cases hh : parseOk s with
          | false => rfl
          | true =>
            simp only [parseOk, Bool.and_eq_true, List.all_eq_true] at hh
            have := hh.2 _ (List.mem_of_getElem? (getD_get s (2 * i) 0 (by omega)))
            rw [h1] at this; cases this
        refine wp_rs fun K15 hK15 => ?_
        refine s_val hF (x_move rfl) (by decide) fun a hF => ?_
        refine s_val hF (x_not rfl) (by decide) fun a hF => ?_
        refine s_val hF (x_move rfl) (by decide) fun a hF => ?_
        refine s_grdn 36 hF rfl rfl (by decide) fun a hF => ?_
        refine s_grdn 36 hF rfl rfl (by decide) fun a hF => ?_
        refine s_val hF (x_pick rfl rfl) (by decide) fun a hF => ?_
        refine s_end (hK15 _ _ ?_)
        refine wp_if hF rfl ?_
        refine wp_rs fun K16 hK16 => ?_
        refine s_val hF (x_build (parts := []) (vs := []) rfl (built24 _)) (by decide) fun a hF => ?_
        refine s_putW hF rfl rfl (size_wide wide24) m2 rfl (oneB _) fun w9 m9 o9 => ?_
        refine s_val hF (x_assign rfl) (by decide) fun a hF => ?_
        refine s_end (hK16 _ _ ?_)
        refine wp_ret (then_ret (inb_ret (then_ret (then_ret (inb_ret (then_ret (res_ct hF rfl rfl m9 wide24 rfl ⟨by rw [parseV, hno, if_neg (by decide)], hB.trans (o9.below (by omega))⟩)))))))
      | true =>
        cases h2 : isD (s.getD (2 * i + 1) 0) with
        | false =>
          rw [h1, h2] at hF
          have hno : parseOk s = false := by
            cases hh : parseOk s with
            | false => rfl
            | true =>
              simp only [parseOk, Bool.and_eq_true, List.all_eq_true] at hh
              have := hh.2 _ (List.mem_of_getElem? (getD_get s (2 * i + 1) 0 (by omega)))
              rw [h2] at this; cases this
          refine wp_rs fun K17 hK17 => ?_
          refine s_val hF (x_move rfl) (by decide) fun a hF => ?_
          refine s_val hF (x_not rfl) (by decide) fun a hF => ?_
          refine s_val hF (x_move rfl) (by decide) fun a hF => ?_
          refine s_grd 36 hF rfl rfl rfl ?_
          refine s_val hF (x_move rfl) (by decide) fun a hF => ?_
          refine s_grd 36 hF rfl rfl rfl ?_
          refine s_val hF (x_not rfl) (by decide) fun a hF => ?_
          refine s_val hF (x_pick rfl rfl) (by decide) fun a hF => ?_
          refine s_end (hK17 _ _ ?_)
          refine wp_if hF rfl ?_
          refine wp_rs fun K18 hK18 => ?_
          refine s_val hF (x_build (parts := []) (vs := []) rfl (built24 _)) (by decide) fun a hF => ?_
          refine s_putW hF rfl rfl (size_wide wide24) m2 rfl (oneB _) fun w9 m9 o9 => ?_
          refine s_val hF (x_assign rfl) (by decide) fun a hF => ?_
          refine s_end (hK18 _ _ ?_)
          refine wp_ret (then_ret (inb_ret (then_ret (then_ret (inb_ret (then_ret (res_ct hF rfl rfl m9 wide24 rfl ⟨by rw [parseV, hno, if_neg (by decide)], hB.trans (o9.below (by omega))⟩)))))))
        | true =>
          rw [h1, h2] at hF
          have hd' : (s.take (2 * (i + 1))).all isD = true := by rw [show 2 * (i + 1) = 2 * i + 1 + 1 by omega, take_snoc s (2 * i + 1) 0 (by omega), take_snoc s (2 * i) 0 (by omega)]; simp only [List.all_append, hd, List.all_cons, List.all_nil, h1, h2]; rfl
          refine wp_rs fun K19 hK19 => ?_
          refine s_val hF (x_move rfl) (by decide) fun a hF => ?_
          refine s_val hF (x_not rfl) (by decide) fun a hF => ?_
          refine s_val hF (x_move rfl) (by decide) fun a hF => ?_
          refine s_grd 36 hF rfl rfl rfl ?_
          refine s_val hF (x_move rfl) (by decide) fun a hF => ?_
          refine s_grd 36 hF rfl rfl rfl ?_
          refine s_val hF (x_not rfl) (by decide) fun a hF => ?_
          refine s_val hF (x_pick rfl rfl) (by decide) fun a hF => ?_
          refine s_end (hK19 _ _ ?_)
          refine wp_if hF rfl ?_
          refine wp_skip (hK14 _ _ ?_)
          refine wp_region_lit ?_
          refine s_val hF (x_move rfl) (by decide) fun a hF => ?_
          refine s_val hF (x_move rfl) (by decide) fun a hF => ?_
          refine s_val hF (x_shl8 4 rfl (by decide) rfl rfl) (by decide) fun a hF => ?_
          refine s_val hF (x_move rfl) (by decide) fun a hF => ?_
          refine s_val hF (x_or8 rfl rfl) (by decide) fun a hF => ?_
          refine s_val hF (x_ixa rfl rfl (m_ixa0 (i) under24 (size_flat flat5) (by omega) (by omega))) (by decide) fun a hF => ?_
          refine s_put hF rfl rfl flat5 m4 (by rw [len_padB (by omega)]; omega) rfl fun w3 m5 o3 => ?_
          rw [set_padB _ _ hl (by omega), ← unhex_take s i (by omega)] at m5
          refine s_end (hK10 _ _ ?_)
          refine wp_region_lit ?_
          refine s_val hF (x_addn (i + 1) (by omega) (by omega) rfl rfl) (by decide) fun a hF => ?_
          refine s_val hF (x_move rfl) (by decide) fun a hF => ?_
          refine s_end (hK' _ _ (by omega) ⟨hd', m5, m2.only o3 (by omega), hB.trans (o3.below (by omega)), hF.sub _ rfl⟩)
    · obtain rfl : i = 32 := by omega
      have hsk : s.take 64 = s := List.take_of_length_le (by omega)
      have hok : parseOk s = true := by rw [show 2 * 32 = 64 from rfl, hsk] at hd; simp only [parseOk, hd, h64]; rfl
      have hv : parseV s = unhex s := by rw [parseV, if_pos hok]
      have hu32 : ((unhex s).map encB).length = 32 := by rw [List.length_map, unhex_length 32 s (by omega)]
      rw [show 2 * 32 = 64 from rfl, hsk, pad_full 32 0 _ (unhex_length 32 s (by omega))] at m4
      refine wp_exit (hK6 _ _ ?_)
      refine wp_rs fun K20 hK20 => ?_
      refine s_val hF (x_load rfl (m_loadW (by rw [hu32]; exact wide24) m4)) (by decide) fun a hF => ?_
      refine s_putW hF rfl rfl (by rw [hu32]; exact size_wide wide24) m2 (by rw [hu32]; rfl) (oneB _) fun w9 m9 o9 => ?_
      refine s_val hF (x_assign rfl) (by decide) fun a hF => ?_
      refine s_end (hK20 _ _ ?_)
      refine wp_ret (res_ct hF rfl rfl m9 (by rw [hu32]; exact wide24) rfl ⟨by rw [hv, hok], hB.trans (o9.below (by omega))⟩)
end Go.Proofs.YtjohaokdfgkdjaaDoor
