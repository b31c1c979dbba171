/- sha.ending, sha.startingWords, sha.joined, Len, New. -/
import Derived.Test.YtefpenjcgplamaaDoorMixed
import Derived.Test.YtefpenjcgplamaaDoorWords64
import Derived.Test.YtefpenjcgplamaaDoorPure2
namespace Go.Proofs.YtefpenjcgplamaaDoor
open Go.RowKit Go.Shelf
set_option linter.unusedVariables false
set_option linter.unusedSimpArgs false

theorem info5 : ∃ i, Tryd.prog.info? 5 = some i ∧ i.zero = some (encB 0) ∧ i.size = 1 ∧ i.bytes = 1 := by
  have h : (Tryd.prog.info? 5).map (fun i => (i.zero, i.size, i.bytes)) = some (some (encB 0), 1, 1) := by kernel_rfl
  cases hi : Tryd.prog.info? 5 with
  | none => rw [hi] at h; cases h
  | some i =>
    rw [hi] at h
    simp at h
    exact ⟨i, rfl, h.1, h.2.1, h.2.2⟩

set_option maxRecDepth 100000 in
set_option maxHeartbeats 400000 in
/-- What stands behind n bytes. -/
theorem ending25 (n : Nat) (hn : n < 4611686018427387904) (w0 : World) :
    Calls Tryd.prog 25 #[.int .i64 (n : Int)] w0 fun e w' => ∃ v, e = .returned v ∧ (∃ b, b = w0.heap.size ∧ v = .slice (some ⟨b, 0, none⟩) (endingL n).length (endingL n).length ∧ Blk w' b 5 ((endingL n).map encB)) ∧ Below w0.heap.size w0 w' := by
  obtain ⟨i5, hi, hz, hs, hb⟩ := info5
  have h9 := endLen_ge n
  have h72 := endLen_le n
  refine calls_fs 37 [(0, .int .i64 (n : Int))] Tryd.func25 rfl rfl rfl rfl rfl fun a hF => ?_
  refine wp_rs fun K1 hK1 => ?_
  refine s_val hF (x_assign rfl) (by decide) fun a hF => ?_
  refine s_end (hK1 _ _ ?_)
  refine wp_rs fun K2 hK2 => ?_
  refine s_val hF (x_move rfl) (by decide) fun a hF => ?_
  refine s_val hF (x_remn (n % 64) (by decide) (by rw [Int.tmod_eq_emod_of_nonneg (by omega)]; omega) rfl rfl) (by decide) fun a hF => ?_
  refine s_val hF (x_subn (128 - n % 64) (by omega) (by omega) rfl rfl) (by decide) fun a hF => ?_
  refine s_val hF (x_assign rfl) (by decide) fun a hF => ?_
  refine s_end (hK2 _ _ ?_)
  refine wp_seq_k fun K3 hK3 => ?_
  have key3 : ∀ a, Fs 37 a [(0, .int .i64 (n : Int)), (3, .int .i64 (endLen n : Int))] → K3 a w0 := by
    intro a hF
    refine hK3 _ _ ?_
    refine wp_rs fun K4 hK4 => ?_
    refine s_val hF (x_move rfl) (by decide) fun a hF => ?_
    refine s_make (endLen n) hF (by decide) rfl rfl Tryd.underlying22 hi hz hs rfl (by rw [hb]; omega) (by omega) rfl rfl fun w1 b a e1 m1 B1 z1 hF => ?_
    refine s_val hF (x_assign rfl) (by decide) fun a hF => ?_
    refine s_end (hK4 _ _ ?_)
    refine wp_rs fun K5 hK5 => ?_
    refine s_val hF (x_move rfl) (by decide) fun a hF => ?_
    refine s_val hF (x_ixa rfl rfl (m_ixs (0) Tryd.underlying22 (size_flat flat5) (by omega) (by omega))) (by decide) fun a hF => ?_
    refine s_put hF rfl (v := encB 128) rfl flat5 m1 (by simp; omega) rfl fun w2 m2 o2 => ?_
    refine s_end (hK5 _ _ ?_)
    refine wp_rs fun K6 hK6 => ?_
    refine s_val hF (x_move rfl) (by decide) fun a hF => ?_
    refine s_val hF (x_i2d Tryd.underlying2 Tryd.underlying47 rfl) (by decide) fun a hF => ?_
    refine s_val hF (x_mul64 (q := 8) rfl rfl) (by decide) fun a hF => ?_
    refine s_val hF (x_assign rfl) (by decide) fun a hF => ?_
    refine s_end (hK6 _ _ ?_)
    refine wp_seq_k fun K7 hK7 => ?_
    refine wp_rs fun K8 hK8 => ?_
    refine s_val hF (x_move rfl) (by decide) fun a hF => ?_
    refine s_end (hK8 _ _ ?_)
    refine wp_block ?_
    have m2 : Blk w2 b 5 ((endW (endLen n) (UInt64.ofNat n * 8) 0).map encB) := by rw [← endW_zero _ _ (by omega), List.map_set, List.map_replicate]; simpa [Nat.zero_add] using m2
    refine wp_up 8 (fun k a w => Blk w b 5 ((endW (endLen n) (UInt64.ofNat n * 8) k).map encB) ∧ Below w0.heap.size w0 w ∧ Fs 37 a [(21, .int .i64 (k : Int)), (3, .int .i64 (endLen n : Int)), (4, .slice (some ⟨b, 0, none⟩) (endLen n) (endLen n)), (5, encD (UInt64.ofNat n * 8))]) ⟨m2, B1.trans (o2.below (by omega)), hF.sub _ rfl⟩ ?_
    clear hF m1 m2 o2
    rintro k a w hk ⟨hm, hB, hF⟩ K' hK'
    refine wp_rs fun K9 hK9 => ?_
    refine s_val hF (x_lss rfl rfl rfl) (by decide) fun a hF => ?_
    refine s_end (hK9 _ _ ?_)
    refine wp_seq_k fun K10 hK10 => ?_
    refine wp_iff hF rfl (fun hc22 => ?_) (fun hc22 => ?_)
    · refine wp_skip (hK10 _ _ ?_)
      refine wp_seq_k fun K11 hK11 => ?_
      refine wp_block ?_
      refine wp_rs fun K12 hK12 => ?_
      refine s_val hF (x_move rfl) (by decide) fun a hF => ?_
      refine s_val hF (x_assign rfl) (by decide) fun a hF => ?_
      refine s_end (hK12 _ _ ?_)
      refine wp_region_lit ?_
      refine s_val hF (x_move rfl) (by decide) fun a hF => ?_
      refine s_val hF (x_move rfl) (by decide) fun a hF => ?_
      refine s_val hF (x_subn (endLen n - 1) (by omega) (by omega) rfl rfl) (by decide) fun a hF => ?_
      refine s_val hF (x_move rfl) (by decide) fun a hF => ?_
      refine s_val hF (x_subn (endLen n - 1 - k) (by omega) (by omega) rfl rfl) (by decide) fun a hF => ?_
      refine s_val hF (x_move rfl) (by decide) fun a hF => ?_
      refine s_val hF (x_move rfl) (by decide) fun a hF => ?_
      refine s_val hF (x_muln (8 * k) (by omega) (by omega) rfl rfl) (by decide) fun a hF => ?_
      refine s_val hF (x_shr64 (8 * k) rfl (by omega) rfl rfl) (by decide) fun a hF => ?_
      refine s_val hF (x_d2b Tryd.underlying47 Tryd.underlying5 rfl) (by decide) fun a hF => ?_
      refine s_val hF (x_ixa rfl rfl (m_ixs (endLen n - 1 - k) Tryd.underlying22 (size_flat flat5) (by omega) (by omega))) (by decide) fun a hF => ?_
      refine s_put hF rfl rfl flat5 hm (by rw [List.length_map, endW_length _ _ _ (by omega)]; omega) rfl fun w3 m3 o3 => ?_
      refine s_end (hK11 _ _ ?_)
      refine wp_region_lit ?_
      refine s_val hF (x_addn (k + 1) (by omega) (by omega) rfl rfl) (by decide) fun a hF => ?_
      refine s_val hF (x_move rfl) (by decide) fun a hF => ?_
      rw [Nat.zero_add, ← List.map_set, endW_set _ _ _ (by omega)] at m3
      refine s_end (hK' _ _ (by omega) ⟨m3, hB.trans (o3.below (by omega)), hF.sub _ rfl⟩)
    · obtain rfl : k = 8 := by omega
      refine wp_exit (hK7 _ _ ?_)
      refine wp_rs fun K13 hK13 => ?_
      refine s_val hF (x_move rfl) (by decide) fun a hF => ?_
      refine s_val hF (x_assign rfl) (by decide) fun a hF => ?_
      refine s_end (hK13 _ _ ?_)
      refine wp_ret (res_slot hF rfl rfl ⟨_, rfl, ⟨b, e1, by rw [endingL_length], hm⟩, hB⟩)
  refine wp_rs fun K14 hK14 => ?_
  refine s_val hF (x_move rfl) (by decide) fun a hF => ?_
  refine s_val hF (x_geq rfl rfl rfl) (by decide) fun a hF => ?_
  refine s_end (hK14 _ _ ?_)
  refine wp_iff hF rfl (fun hc11 => ?_) (fun hc11 => ?_)
  · refine wp_region_lit ?_
    refine s_val hF (x_move rfl) (by decide) fun a hF => ?_
    refine s_val hF (x_subn (endLen n) (by unfold endLen; rw [if_pos (by omega)]; omega) (by omega) rfl rfl) (by decide) fun a hF => ?_
    refine s_val hF (x_assign rfl) (by decide) fun a hF => ?_
    refine s_end ?_
    exact key3 _ (hF.sub _ rfl)
  · refine wp_skip ?_
    have he : endLen n = 128 - n % 64 := by unfold endLen; rw [if_neg (by omega)]
    exact key3 _ (by rw [he]; exact hF.sub _ rfl)

/-- The eight words ahead of the first block. -/
theorem start23 (w0 : World) : Calls Tryd.prog 23 #[] w0 fun e w' => e = .returned (.agg (ivL.map encW).toArray) ∧ Below w0.heap.size w0 w' := by
  refine calls_fs (vs := []) 2 [] Tryd.func23 rfl rfl rfl rfl rfl fun a hF => ?_
  refine wp_rs fun K1 hK1 => ?_
  refine s_alloc hF (by decide) zero44 fun w1 b a e1 m1 B1 z1 hF => ?_
  refine s_end (hK1 _ _ ?_)
  refine wp_rs fun K2 hK2 => ?_
  refine s_val hF (x_build (vs := ivL.zipIdx.map fun p => (p.2, encW p.1)) rfl (run_build w1 58 _ (ivL.map encW).toArray (by kernel_rfl))) (by decide) fun a hF => ?_
  refine s_putW hF rfl rfl (size_wide wide44) m1 rfl (oneW _) fun w2 m2 o2 => ?_
  refine s_end (hK2 _ _ ?_)
  refine wp_ret (res_cell hF rfl rfl m2 wide44 ⟨rfl, B1.trans (o2.below (by omega))⟩)

theorem set_padB {n : Nat} {ds : List UInt8} (v : UInt8) (k : Nat) (hk : ds.length = k) (h : k < n) : ((pad n 0 ds).map encB).set k (encB v) = (pad n 0 (ds ++ [v])).map encB := by
  subst hk
  rw [← pad_set n 0 v ds h, List.map_set]
theorem len_padB {n : Nat} {ds : List UInt8} (h : ds.length ≤ n) : ((pad n 0 ds).map encB).length = n := by rw [List.length_map, pad_length n 0 ds h]

set_option maxRecDepth 100000 in
set_option maxHeartbeats 400000 in
/-- The bytes of words. -/
theorem joined26 (ws : List UInt32) (hws : ws.length = 8) (w0 : World) : Calls Tryd.prog 26 #[.agg (ws.map encW).toArray] w0 fun e w' => e = .returned (.agg ((joinL ws).map encB).toArray) ∧ Below w0.heap.size w0 w' := by
  refine calls_fs 29 [(0, .agg (ws.map encW).toArray)] Tryd.func26 rfl rfl rfl rfl rfl fun a hF => ?_
  refine wp_rs fun K1 hK1 => ?_
  refine s_box (ws.map encW) hF (by decide) rfl rfl fun w1 b1 a e1 m1 B1 z1 hF => ?_
  refine s_alloc hF (by decide) zero24 fun w2 b2 a e2 m2 B2 z2 hF => ?_
  refine s_end (hK1 _ _ ?_)
  refine wp_rs fun K2 hK2 => ?_
  refine s_alloc hF (by decide) zero24 fun w3 b3 a e3 m3 B3 z3 hF => ?_
  refine s_end (hK2 _ _ ?_)
  refine wp_seq_k fun K3 hK3 => ?_
  refine wp_rs fun K4 hK4 => ?_
  refine s_val hF (x_load rfl (m_loadW (by rw [List.length_map, hws]; exact wide44) ((m1.old B2).old B3))) (by decide) fun a hF => ?_
  refine s_val hF (x_move rfl) (by decide) fun a hF => ?_
  refine s_end (hK4 _ _ ?_)
  refine wp_block ?_
  refine wp_up 8 (fun i a w => (∃ ds, ds.length = 4 * i + 0 ∧ grow (jb ws) (32 - (4 * i + 0)) ds = joinL ws ∧ Blk w b3 24 ((pad 32 0 ds).map encB) ∧ Blk w b2 24 ((List.replicate 32 (0 : UInt8)).map encB) ∧ Below w0.heap.size w0 w) ∧ Fs 29 a [(8, .int .i64 (i : Int)), (7, .agg (ws.map encW).toArray), (2, .pointer (some ⟨b2, 0, none⟩)), (3, .pointer (some ⟨b3, 0, none⟩))]) ⟨⟨[], rfl, by rw [joinL], by rw [pad_nil]; exact m3, m2.old B3, (B1.trans (B2.mono (by omega))).trans (B3.mono (by omega))⟩, hF.sub _ rfl⟩ ?_
  clear hF m3 m2
  rintro i a w hi ⟨⟨ds, hl, hg, m3, m2, hB⟩, hF⟩ K' hK'
  refine wp_rs fun K5 hK5 => ?_
  refine s_val hF (x_lss rfl rfl rfl) (by decide) fun a hF => ?_
  refine s_end (hK5 _ _ ?_)
  refine wp_seq_k fun K6 hK6 => ?_
  refine wp_iff hF rfl (fun hc9 => ?_) (fun hc9 => ?_)
  · refine wp_skip (hK6 _ _ ?_)
    refine wp_seq_k fun K7 hK7 => ?_
    refine wp_block ?_
    refine wp_rs fun K8 hK8 => ?_
    refine s_val hF (x_move rfl) (by decide) fun a hF => ?_
    refine s_val hF (x_ix (v := encW (ws.getD i 0)) rfl rfl (m_ix i Tryd.underlying58 flat43 rfl (by rw [List.length_map, hws]) (by rw [List.getElem?_map, getD_get ws i 0 (by omega)]; rfl))) (by decide) fun a hF => ?_
    refine s_val hF (x_assign rfl) (by decide) fun a hF => ?_
    refine s_val hF (x_assign rfl) (by decide) fun a hF => ?_
    refine s_end (hK8 _ _ ?_)
    refine wp_rs fun K9 hK9 => ?_
    refine s_val hF (x_move rfl) (by decide) fun a hF => ?_
    refine s_end (hK9 _ _ ?_)
    refine wp_block ?_
    refine wp_up 4 (fun j a w => (∃ ds, ds.length = 4 * i + j ∧ grow (jb ws) (32 - (4 * i + j)) ds = joinL ws ∧ Blk w b3 24 ((pad 32 0 ds).map encB) ∧ Blk w b2 24 ((List.replicate 32 (0 : UInt8)).map encB) ∧ Below w0.heap.size w0 w) ∧ Fs 29 a [(12, .int .i64 (j : Int)), (4, .int .i64 (i : Int)), (5, encW (ws.getD i 0)), (8, .int .i64 (i : Int)), (7, .agg (ws.map encW).toArray), (2, .pointer (some ⟨b2, 0, none⟩)), (3, .pointer (some ⟨b3, 0, none⟩))]) ⟨⟨ds, hl, hg, m3, m2, hB⟩, hF.sub _ rfl⟩ ?_
    clear hF m3 m2 hB hl hg
    clear ds
    rintro j a w hj ⟨⟨ds, hl, hg, m3, m2, hB⟩, hF⟩ K2' hK2'
    refine wp_rs fun K10 hK10 => ?_
    refine s_val hF (x_lss rfl rfl rfl) (by decide) fun a hF => ?_
    refine s_end (hK10 _ _ ?_)
    refine wp_seq_k fun K11 hK11 => ?_
    refine wp_iff hF rfl (fun hc13 => ?_) (fun hc13 => ?_)
    · refine wp_skip (hK11 _ _ ?_)
      refine wp_seq_k fun K12 hK12 => ?_
      refine wp_block ?_
      refine wp_rs fun K13 hK13 => ?_
      refine s_val hF (x_move rfl) (by decide) fun a hF => ?_
      refine s_val hF (x_assign rfl) (by decide) fun a hF => ?_
      refine s_end (hK13 _ _ ?_)
      refine wp_region_lit ?_
      refine s_val hF (x_move rfl) (by decide) fun a hF => ?_
      refine s_val hF (x_muln (4 * i) (by omega) (by omega) rfl rfl) (by decide) fun a hF => ?_
      refine s_val hF (x_move rfl) (by decide) fun a hF => ?_
      refine s_val hF (x_addn (4 * i + j) (by omega) (by omega) rfl rfl) (by decide) fun a hF => ?_
      refine s_val hF (x_move rfl) (by decide) fun a hF => ?_
      refine s_val hF (x_move rfl) (by decide) fun a hF => ?_
      refine s_val hF (x_muln (8 * j) (by omega) (by omega) rfl rfl) (by decide) fun a hF => ?_
      refine s_val hF (x_subn (24 - 8 * j) (by omega) (by omega) rfl rfl) (by decide) fun a hF => ?_
      refine s_val hF (x_shr32 (24 - 8 * j) rfl (by omega) rfl rfl) (by decide) fun a hF => ?_
      refine s_val hF (x_w2b Tryd.underlying57 Tryd.underlying5 rfl) (by decide) fun a hF => ?_
      refine s_val hF (x_ixa rfl rfl (m_ixa0 (4 * i + j) (show Tryd.prog.underlying 24 = some (.array 32 5) by kernel_rfl) (size_flat flat5) (by omega) (by omega))) (by decide) fun a hF => ?_
      refine s_put hF rfl rfl flat5 m3 (by rw [len_padB (by omega)]; omega) rfl fun w4 m4 o4 => ?_
      refine s_end (hK12 _ _ ?_)
      refine wp_region_lit ?_
      refine s_val hF (x_addn (j + 1) (by omega) (by omega) rfl rfl) (by decide) fun a hF => ?_
      refine s_val hF (x_move rfl) (by decide) fun a hF => ?_
      rw [set_padB _ _ hl (by omega)] at m4
      refine s_end (hK2' _ _ (by omega) ⟨⟨ds ++ [jb ws ds], by simp [hl]; omega, ?_, ?_, m2.only o4 (by omega), hB.trans (o4.below (by omega))⟩, hF.sub _ rfl⟩)
      · rw [← hg, show 32 - (4 * i + j) = (32 - (4 * i + (j + 1))) + 1 by omega, grow]
      · have e1 : ds.length / 4 = i := by omega
        have e2 : ds.length % 4 = j := by omega
        rw [jb, e1, e2]
        exact m4
    · obtain rfl : j = 4 := by omega
      refine wp_exit (hK7 _ _ ?_)
      refine wp_region_lit ?_
      refine s_val hF (x_addn (i + 1) (by omega) (by omega) rfl rfl) (by decide) fun a hF => ?_
      refine s_val hF (x_move rfl) (by decide) fun a hF => ?_
      refine s_end (hK' _ _ (by omega) ⟨⟨ds, by omega, hg, m3, m2, hB⟩, hF.sub _ rfl⟩)
  · obtain rfl : i = 8 := by omega
    rw [show 32 - (4 * 8 + 0) = 0 from rfl, grow] at hg
    subst hg
    rw [pad_full 32 0 _ (joinL_length ws)] at m3
    refine wp_exit (hK3 _ _ ?_)
    refine wp_rs fun K14 hK14 => ?_
    refine s_val hF (x_load rfl (m_loadW (by rw [List.length_map, joinL_length]; exact wide24) m3)) (by decide) fun a hF => ?_
    refine s_putW hF rfl rfl (by rw [List.length_map, joinL_length]; exact size_wide wide24) m2 (by simp [joinL_length]) (oneB _) fun w5 m5 o5 => ?_
    refine s_end (hK14 _ _ ?_)
    refine wp_ret (res_cell hF rfl rfl m5 (by rw [List.length_map, joinL_length]; exact wide24) ⟨rfl, hB.trans (o5.below (by omega))⟩)
end Go.Proofs.YtefpenjcgplamaaDoor
