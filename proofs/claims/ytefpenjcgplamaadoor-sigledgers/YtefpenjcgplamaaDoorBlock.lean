/- assizeref3.block. -/
import Derived.Test.YtefpenjcgplamaaDoorPrimes
namespace Go.Proofs.YtefpenjcgplamaaDoor
open Go.RowKit Go.Shelf
set_option linter.unusedVariables false
set_option linter.unusedSimpArgs false

theorem s8_list {ws : List UInt32} (h : ws.length = 8) : (s8 ws).list = ws := by
  obtain ⟨a, b, c, d, e, f, g, i, rfl⟩ : ∃ a b c d e f g i, ws = [a, b, c, d, e, f, g, i] := by
    match ws, h with
    | [a, b, c, d, e, f, g, i], _ => exact ⟨a, b, c, d, e, f, g, i, rfl⟩
  rfl
theorem pad_zero {n : Nat} {ws : List UInt32} (h : ws.length < n) : pad n 0 (ws ++ [0]) = pad n 0 ws := by
  obtain ⟨m, hm⟩ : ∃ m, n - ws.length = m + 1 := ⟨n - ws.length - 1, by omega⟩
  have hm' : n - (ws.length + 1) = m := by omega
  simp [pad, hm, hm', List.replicate_succ]
theorem set_last {n : Nat} {ws : List UInt32} (f v : UInt32) (k : Nat) (hk : ws.length = k) : ((pad n 0 (ws ++ [f])).map encW).set k (encW v) = (pad n 0 (ws ++ [v])).map encW := by
  subst hk
  rw [← List.map_set]
  congr 1
  simp [pad]
theorem getD_last (ws : List UInt32) (f : UInt32) (k : Nat) (hk : ws.length = k) : (ws ++ [f]).getD k 0 = f := by
  subst hk
  simp

structure BkI (w0 w : World) (b3 b6 b7 : Nat) (us xs : List UInt32) : Prop where
  below : Below w0.heap.size w0 w
  o3 : w0.heap.size ≤ b3
  o6 : w0.heap.size ≤ b6
  o7 : w0.heap.size ≤ b7
  n36 : b3 ≠ b6
  n37 : b3 ≠ b7
  n67 : b6 ≠ b7
  m3 : Blk w b3 58 (us.map encW)
  m6 : Blk w b6 58 ((List.replicate 8 (0 : UInt32)).map encW)
  m7 : Blk w b7 66 ((pad 64 0 xs).map encW)
theorem BkI.drawn {w0 w : World} {b3 b6 b7 : Nat} {us xs : List UInt32} (h : BkI w0 w b3 b6 b7 us xs) : BkI w0 { w with drawn := w.drawn + 1 } b3 b6 b7 us xs :=
  ⟨h.below.drew, h.o3, h.o6, h.o7, h.n36, h.n37, h.n67, h.m3, h.m6, h.m7⟩
theorem BkI.old {w0 w w' : World} {b3 b6 b7 : Nat} {us xs : List UInt32} (h : BkI w0 w b3 b6 b7 us xs) (hB : Below w.heap.size w w') : BkI w0 w' b3 b6 b7 us xs :=
  ⟨h.below.trans (hB.mono h.below.size), h.o3, h.o6, h.o7, h.n36, h.n37, h.n67, h.m3.old hB, h.m6.old hB, h.m7.old hB⟩
theorem BkI.only {w0 w w' : World} {b3 b6 b7 b : Nat} {us xs : List UInt32} (h : BkI w0 w b3 b6 b7 us xs) (ho : Only b w w') (hb : w0.heap.size ≤ b) (h3 : b3 ≠ b) (h6 : b6 ≠ b) (h7 : b7 ≠ b) : BkI w0 w' b3 b6 b7 us xs :=
  ⟨h.below.trans (ho.below hb), h.o3, h.o6, h.o7, h.n36, h.n37, h.n67, h.m3.only ho h3, h.m6.only ho h6, h.m7.only ho h7⟩
theorem BkI.put7 {w0 w w' : World} {b3 b6 b7 : Nat} {us xs ys : List UInt32} (h : BkI w0 w b3 b6 b7 us xs) (ho : Only b7 w w') (hB : Blk w' b7 66 ((pad 64 0 ys).map encW)) : BkI w0 w' b3 b6 b7 us ys :=
  ⟨h.below.trans (ho.below h.o7), h.o3, h.o6, h.o7, h.n36, h.n37, h.n67, h.m3.only ho h.n37, h.m6.only ho h.n67, hB⟩
theorem BkI.put3 {w0 w w' : World} {b3 b6 b7 : Nat} {us xs vs : List UInt32} (h : BkI w0 w b3 b6 b7 us xs) (ho : Only b3 w w') (hB : Blk w' b3 58 (vs.map encW)) : BkI w0 w' b3 b6 b7 vs xs :=
  ⟨h.below.trans (ho.below h.o3), h.o3, h.o6, h.o7, h.n36, h.n37, h.n67, hB, h.m6.only ho (Ne.symm h.n36), h.m7.only ho (Ne.symm h.n37)⟩

set_option maxRecDepth 100000 in
set_option maxHeartbeats 1600000 in
theorem block21 (ex kb : Nat) (ws : List UInt32) (bs : List UInt8) (v : Value) (hws : ws.length = 8) (hbs : bs.length = 64) (w0 : World) (hR : RB ex w0 v bs) (hK : Blk w0 kb 66 (kTab.map encW)) :
    Calls Tryd.prog 29 #[.agg (ws.map encW).toArray, v, .pointer (some ⟨kb, 0, none⟩)] w0 fun e w' => e = .returned (.agg ((mixW kTab ws bs).map encW).toArray) ∧ Below w0.heap.size w0 w' := by
  have hkt := kTab_length
  have hsl := sched_length bs
  obtain ⟨b, off, cap, rfl, hcap, hc⟩ : ∃ b off cap, v = .slice (some ⟨b, off, none⟩) 64 cap ∧ 64 ≤ cap ∧ ∀ w', Below w0.heap.size w0 w' → ∀ j, j < 64 → w'.cell? ⟨b, off + j, none⟩ = some (encB (bs.getD j 0)) := by
    rcases hR with ⟨_, _, _, rfl, _⟩ | ⟨b, off, cap, rfl, h1, _, hl, h2⟩
    · simp at hbs
    · exact ⟨b, off, cap, by rw [hbs], by omega, fun w' hB j hj => (hB.cell (p := ⟨b, off + j, none⟩) hl).trans (h2 j _ (getD_get bs j 0 (by omega)))⟩
  refine calls_fs 182 [(0, .agg (ws.map encW).toArray), (1, .slice (some ⟨b, off, none⟩) 64 cap), (2, .pointer (some ⟨kb, 0, none⟩))] Tryd.func29 rfl rfl rfl rfl rfl fun a hF => ?_
  refine wp_rs fun K1 hK1 => ?_
  refine s_box (ws.map encW) hF (by decide) rfl rfl fun w1 b3 a e3 m3 B1 z1 hF => ?_
  refine s_alloc hF (by decide) zero44 fun w2 b6 a e6 m6 B2 z2 hF => ?_
  refine s_end (hK1 _ _ ?_)
  refine wp_rs fun K2 hK2 => ?_
  refine s_alloc hF (by decide) zero49 fun w3 b7 a e7 m7 B3 z3 hF => ?_
  have hI : BkI w0 w3 b3 b6 b7 ws [] := ⟨(B1.trans (B2.mono (by omega))).trans (B3.mono (by omega)), by omega, by omega, by omega, by omega, by omega, by omega, (m3.old B2).old B3, m6.old B3, by rw [pad_nil]; exact m7⟩
  clear m3 m6 m7 B1 B2 B3
  refine s_end (hK2 _ _ ?_)
  refine wp_seq_k fun K3 hK3 => ?_
  refine wp_rs fun K4 hK4 => ?_
  refine s_val hF (x_move rfl) (by decide) fun a hF => ?_
  refine s_end (hK4 _ _ ?_)
  refine wp_block ?_
  refine wp_up 16 (fun t a w => ∃ xs, xs.length = t ∧ grow (fun l => word4 bs l.length) (16 - t) xs = first16 bs ∧ BkI w0 w b3 b6 b7 ws xs ∧ Fs 182 a [(20, .int .i64 (t : Int)), (1, .slice (some ⟨b, off, none⟩) 64 cap), (2, .pointer (some ⟨kb, 0, none⟩)), (3, .pointer (some ⟨b3, 0, none⟩)), (6, .pointer (some ⟨b6, 0, none⟩)), (7, .pointer (some ⟨b7, 0, none⟩))]) ⟨[], rfl, by rw [first16], hI, hF.sub _ rfl⟩ ?_
  clear hI hF
  rintro t a w ht ⟨xs, hl, hg, hI, hF⟩ K' hK'
  refine wp_rs fun K5 hK5 => ?_
  refine s_val hF (x_lss rfl rfl rfl) (by decide) fun a hF => ?_
  refine s_end (hK5 _ _ ?_)
  refine wp_seq_k fun K6 hK6 => ?_
  refine wp_iff hF rfl (fun hc21 => ?_) (fun hc21 => ?_)
  · refine wp_skip (hK6 _ _ ?_)
    refine wp_seq_k fun K7 hK7 => ?_
    refine wp_block ?_
    refine wp_rs fun K8 hK8 => ?_
    refine s_val hF (x_move rfl) (by decide) fun a hF => ?_
    refine s_val hF (x_assign rfl) (by decide) fun a hF => ?_
    refine s_end (hK8 _ _ ?_)
    refine wp_rs fun K9 hK9 => ?_
    refine s_val hF (x_move rfl) (by decide) fun a hF => ?_
    refine s_end (hK9 _ _ ?_)
    refine wp_block ?_
    refine wp_up 4 (fun j a w => BkI w0 w b3 b6 b7 ws (xs ++ [foldW bs t j]) ∧ Fs 182 a [(23, .int .i64 (j : Int)), (8, .int .i64 (t : Int)), (20, .int .i64 (t : Int)), (1, .slice (some ⟨b, off, none⟩) 64 cap), (2, .pointer (some ⟨kb, 0, none⟩)), (3, .pointer (some ⟨b3, 0, none⟩)), (6, .pointer (some ⟨b6, 0, none⟩)), (7, .pointer (some ⟨b7, 0, none⟩))]) ⟨⟨hI.below, hI.o3, hI.o6, hI.o7, hI.n36, hI.n37, hI.n67, hI.m3, hI.m6, by rw [foldW, pad_zero (by omega)]; exact hI.m7⟩, hF.sub _ rfl⟩ ?_
    clear hI hF
    rintro j a w hj ⟨hI, hF⟩ K2' hK2'
    refine wp_rs fun K10 hK10 => ?_
    refine s_val hF (x_lss rfl rfl rfl) (by decide) fun a hF => ?_
    refine s_end (hK10 _ _ ?_)
    refine wp_seq_k fun K11 hK11 => ?_
    refine wp_iff hF rfl (fun hc24 => ?_) (fun hc24 => ?_)
    · refine wp_skip (hK11 _ _ ?_)
      refine wp_seq_k fun K12 hK12 => ?_
      refine wp_block ?_
      refine wp_rs fun K13 hK13 => ?_
      refine s_val hF (x_move rfl) (by decide) fun a hF => ?_
      refine s_val hF (x_assign rfl) (by decide) fun a hF => ?_
      refine s_end (hK13 _ _ ?_)
      refine wp_rtt 15 wide_orders (by kernel_rfl) fun w108 hw108 => ?_
      have hI' : BkI w0 w108 b3 b6 b7 ws (xs ++ [foldW bs t j]) := by subst hw108; exact hI.drawn
      have hx := hI'.m7
      clear hw108 hI
      show wpStill _ _ _ _ [_, _, _, _, _, _, _, _, _, _, _, _, _, _, _] _
      refine t_val hF (x_move rfl) (by decide) fun a hF => ?_
      refine t_val hF (x_move rfl) (by decide) fun a hF => ?_
      refine t_val hF (x_ixa rfl rfl (m_ixa0 (t) Tryd.underlying66 (size_flat flat43) (by omega) (by omega))) (by decide) fun a hF => ?_
      refine t_val hF (x_load rfl (m_load flat43 (by have := cellP hx t (by simp [hl]); rwa [getD_last _ _ t hl] at this))) (by decide) fun a hF => ?_
      refine t_val hF (x_shl32 8 rfl (by decide) rfl rfl) (by decide) fun a hF => ?_
      refine t_val hF (x_move rfl) (by decide) fun a hF => ?_
      refine t_val hF (x_move rfl) (by decide) fun a hF => ?_
      refine t_val hF (x_muln (4 * t) (by omega) (by omega) rfl rfl) (by decide) fun a hF => ?_
      refine t_val hF (x_move rfl) (by decide) fun a hF => ?_
      refine t_val hF (x_addn (4 * t + j) (by omega) (by omega) rfl rfl) (by decide) fun a hF => ?_
      refine t_val hF (x_ixa rfl rfl (m_ixs (4 * t + j) Tryd.underlying22 (size_flat flat5) rfl (by omega))) (by decide) fun a hF => ?_
      refine t_val hF (x_load rfl (m_load flat5 (hc _ hI'.below (4 * t + j) (by omega)))) (by decide) fun a hF => ?_
      refine t_val hF (x_b2w Tryd.underlying5 Tryd.underlying57 rfl) (by decide) fun a hF => ?_
      refine t_val hF (x_or32 rfl rfl) (by decide) fun a hF => ?_
      refine t_val hF (x_ixa rfl rfl (m_ixa0 (t) Tryd.underlying66 (size_flat flat43) (by omega) (by omega))) (by decide) fun a hF => ?_
      refine t_end ?_
      show wpList _ _ _ [_] _ _
      refine s_put hF rfl rfl flat43 hI'.m7 (by rw [len_pad (by simp [hl]; omega)]; omega) rfl fun w2 hB ho => ?_
      rw [set_last _ _ t hl] at hB
      refine s_end (hK12 _ _ ?_)
      refine wp_region_lit ?_
      refine s_val hF (x_addn (j + 1) (by omega) (by omega) rfl rfl) (by decide) fun a hF => ?_
      refine s_val hF (x_move rfl) (by decide) fun a hF => ?_
      refine s_end (hK2' _ _ (by omega) ⟨hI'.put7 ho hB, hF.sub _ rfl⟩)
    · obtain rfl : j = 4 := by omega
      refine wp_exit (hK7 _ _ ?_)
      refine wp_region_lit ?_
      refine s_val hF (x_addn (t + 1) (by omega) (by omega) rfl rfl) (by decide) fun a hF => ?_
      refine s_val hF (x_move rfl) (by decide) fun a hF => ?_
      refine s_end (hK' _ _ (by omega) ⟨xs ++ [word4 bs t], by simp [hl], ?_, by rw [← foldW_word]; exact hI, hF.sub _ rfl⟩)
      rw [← hg, show 16 - t = (16 - (t + 1)) + 1 by omega, grow, hl]
  · obtain rfl : t = 16 := by omega
    rw [show 16 - 16 = 0 from rfl, grow] at hg
    subst hg
    refine wp_exit (hK3 _ _ ?_)
    refine wp_seq_k fun K14 hK14 => ?_
    refine wp_rs fun K15 hK15 => ?_
    refine s_val hF (x_assign (v := .int .i64 ((16 + 0 : Nat) : Int)) rfl) (by decide) fun a hF => ?_
    refine s_end (hK15 _ _ ?_)
    refine wp_block ?_
    refine wp_up 48 (fun k a w => ∃ xs, xs.length = 16 + k ∧ grow nextw (48 - k) xs = sched bs ∧ BkI w0 w b3 b6 b7 ws xs ∧ Fs 182 a [(10, .int .i64 ((16 + k : Nat) : Int)), (1, .slice (some ⟨b, off, none⟩) 64 cap), (2, .pointer (some ⟨kb, 0, none⟩)), (3, .pointer (some ⟨b3, 0, none⟩)), (6, .pointer (some ⟨b6, 0, none⟩)), (7, .pointer (some ⟨b7, 0, none⟩))]) ⟨first16 bs, first16_length bs, by rw [sched], hI, hF.sub _ rfl⟩ ?_
    clear hI hF hl
    rintro k a w hk ⟨xs, hl, hg, hI, hF⟩ K' hK'
    refine wp_seq_k fun K16 hK16 => ?_
    refine wp_rs fun K17 hK17 => ?_
    refine s_val hF (x_move rfl) (by decide) fun a hF => ?_
    refine s_val hF (x_lss rfl rfl rfl) (by decide) fun a hF => ?_
    refine s_end (hK17 _ _ ?_)
    refine wp_iff hF rfl (fun hc44 => ?_) (fun hc44 => ?_)
    · refine wp_skip (hK16 _ _ ?_)
      refine wp_seq_k fun K18 hK18 => ?_
      refine wp_block ?_
      refine wp_rt wide_orders (by kernel_rfl) fun w114 hw114 K19 hK19 => ?_
      have hI' : BkI w0 w114 b3 b6 b7 ws xs := by subst hw114; exact hI.drawn
      have hx := hI'.m7
      clear hw114 hI
      refine t_val hF (x_move rfl) (by decide) fun a hF => ?_
      refine t_val hF (x_sub (by omega) (by omega) rfl rfl) (by decide) fun a hF => ?_
      refine t_val hF (x_ixa rfl rfl (m_ixa0 (xs.length - 15) Tryd.underlying66 (size_flat flat43) (by omega) (by omega))) (by decide) fun a hF => ?_
      refine t_val hF (x_load rfl (m_load flat43 (cellP hx (xs.length - 15) (by omega)))) (by decide) fun a hF => ?_
      refine t_val hF (x_move rfl) (by decide) fun a hF => ?_
      refine t_val hF (x_sub (by omega) (by omega) rfl rfl) (by decide) fun a hF => ?_
      refine t_val hF (x_ixa rfl rfl (m_ixa0 (xs.length - 2) Tryd.underlying66 (size_flat flat43) (by omega) (by omega))) (by decide) fun a hF => ?_
      refine t_val hF (x_load rfl (m_load flat43 (cellP hx (xs.length - 2) (by omega)))) (by decide) fun a hF => ?_
      refine t_val hF (x_assign rfl) (by decide) fun a hF => ?_
      refine t_val hF (x_assign rfl) (by decide) fun a hF => ?_
      refine t_end (hK19 _ ?_)
      refine wp_rtt 29 wide_orders (by kernel_rfl) fun w115 hw115 => ?_
      have hI'' : BkI w0 w115 b3 b6 b7 ws xs := by subst hw115; exact hI'.drawn
      clear hx
      have hx := hI''.m7
      clear hw115 hI'
      show wpStill _ _ _ _ [_, _, _, _, _, _, _, _, _, _, _, _, _, _, _, _, _, _, _, _, _, _, _, _, _, _, _, _, _] _
      refine t_val hF (x_move rfl) (by decide) fun a hF => ?_
      refine t_val hF (x_move rfl) (by decide) fun a hF => ?_
      refine t_val hF (x_sub (by omega) (by omega) rfl rfl) (by decide) fun a hF => ?_
      refine t_val hF (x_ixa rfl rfl (m_ixa0 (xs.length - 16) Tryd.underlying66 (size_flat flat43) (by omega) (by omega))) (by decide) fun a hF => ?_
      refine t_val hF (x_load rfl (m_load flat43 (cellP hx (xs.length - 16) (by omega)))) (by decide) fun a hF => ?_
      refine t_val hF (x_move rfl) (by decide) fun a hF => ?_
      refine t_same2 hF (enters_of Tryd.func33 (by kernel_rfl) rfl) rfl rfl (by decide) (turn28 (xs.getD (xs.length - 15) 0) 7 (by decide) (by decide) w115) fun a hF => ?_
      refine t_val hF (x_move rfl) (by decide) fun a hF => ?_
      refine t_same2 hF (enters_of Tryd.func33 (by kernel_rfl) rfl) rfl rfl (by decide) (turn28 (xs.getD (xs.length - 15) 0) 18 (by decide) (by decide) w115) fun a hF => ?_
      refine t_val hF (x_xor32 rfl rfl) (by decide) fun a hF => ?_
      refine t_val hF (x_move rfl) (by decide) fun a hF => ?_
      refine t_val hF (x_shr32 3 rfl (by decide) rfl rfl) (by decide) fun a hF => ?_
      refine t_val hF (x_xor32 rfl rfl) (by decide) fun a hF => ?_
      refine t_val hF (x_add32 rfl rfl) (by decide) fun a hF => ?_
      refine t_val hF (x_move rfl) (by decide) fun a hF => ?_
      refine t_val hF (x_sub (by omega) (by omega) rfl rfl) (by decide) fun a hF => ?_
      refine t_val hF (x_ixa rfl rfl (m_ixa0 (xs.length - 7) Tryd.underlying66 (size_flat flat43) (by omega) (by omega))) (by decide) fun a hF => ?_
      refine t_val hF (x_load rfl (m_load flat43 (cellP hx (xs.length - 7) (by omega)))) (by decide) fun a hF => ?_
      refine t_val hF (x_add32 rfl rfl) (by decide) fun a hF => ?_
      refine t_val hF (x_move rfl) (by decide) fun a hF => ?_
      refine t_same2 hF (enters_of Tryd.func33 (by kernel_rfl) rfl) rfl rfl (by decide) (turn28 (xs.getD (xs.length - 2) 0) 17 (by decide) (by decide) w115) fun a hF => ?_
      refine t_val hF (x_move rfl) (by decide) fun a hF => ?_
      refine t_same2 hF (enters_of Tryd.func33 (by kernel_rfl) rfl) rfl rfl (by decide) (turn28 (xs.getD (xs.length - 2) 0) 19 (by decide) (by decide) w115) fun a hF => ?_
      refine t_val hF (x_xor32 rfl rfl) (by decide) fun a hF => ?_
      refine t_val hF (x_move rfl) (by decide) fun a hF => ?_
      refine t_val hF (x_shr32 10 rfl (by decide) rfl rfl) (by decide) fun a hF => ?_
      refine t_val hF (x_xor32 rfl rfl) (by decide) fun a hF => ?_
      refine t_val hF (x_add32 rfl rfl) (by decide) fun a hF => ?_
      refine t_val hF (x_ixa rfl rfl (m_ixa0 (xs.length) Tryd.underlying66 (size_flat flat43) (by omega) (by omega))) (by decide) fun a hF => ?_
      refine t_end ?_
      show wpList _ _ _ [_] _ _
      refine s_put hF rfl rfl flat43 hI''.m7 (by rw [len_pad (by omega)]; omega) rfl fun w2 hB ho => ?_
      rw [set_pad _ _ rfl (by omega)] at hB
      refine s_end (hK18 _ _ ?_)
      refine wp_region_lit ?_
      refine s_val hF (x_move rfl) (by decide) fun a hF => ?_
      refine s_val hF (x_addn (16 + (k + 1)) (by omega) (by omega) rfl rfl) (by decide) fun a hF => ?_
      refine s_val hF (x_assign rfl) (by decide) fun a hF => ?_
      refine s_end (hK' _ _ (by omega) ⟨xs ++ [nextw xs], by simp [hl]; omega, ?_, hI''.put7 ho hB, hF.sub _ rfl⟩)
      rw [← hg, show 48 - k = (48 - (k + 1)) + 1 by omega, grow]
    · obtain rfl : k = 48 := by omega
      rw [show 48 - 48 = 0 from rfl, grow] at hg
      subst hg
      refine wp_exit (hK14 _ _ ?_)
      refine wp_rs fun K20 hK20 => ?_
      refine s_val hF (x_load rfl (m_loadW (by rw [List.length_map, hws]; exact wide44) hI.m3)) (by decide) fun a hF => ?_
      refine s_alloc hF (by decide) zero44 fun w4 b13 a e13 m13 B4 z4 hF => ?_
      refine s_putW hF rfl rfl (by rw [List.length_map, hws]; exact size_wide wide44) m13 (by simp [hws]) (oneW _) fun w5 m13 o5 => ?_
      have hI5 : BkI w0 w5 b3 b6 b7 ws (sched bs) := (hI.old B4).only o5 (by have := hI.below.size; omega) (by have := hI.m3.lt; omega) (by have := hI.m6.lt; omega) (by have := hI.m7.lt; omega)
      have hn13 : b3 ≠ b13 ∧ b6 ≠ b13 ∧ b7 ≠ b13 ∧ w0.heap.size ≤ b13 := ⟨by have := hI.m3.lt; omega, by have := hI.m6.lt; omega, by have := hI.m7.lt; omega, by have := hI.below.size; omega⟩
      have hs8 : (s8 ws).list = ws := s8_list hws
      have m13 : Blk w5 b13 58 ((s8 ws).list.map encW) := by rw [hs8]; exact m13
      refine s_end (hK20 _ _ ?_)
      refine wp_seq_k fun K21 hK21 => ?_
      refine wp_rs fun K22 hK22 => ?_
      refine s_val hF (x_move rfl) (by decide) fun a hF => ?_
      refine s_end (hK22 _ _ ?_)
      refine wp_block ?_
      refine wp_up 64 (fun k a w => ∃ s, rounds kTab (sched bs) (64 - k) k s = rounds kTab (sched bs) 64 0 (s8 ws) ∧ BkI w0 w b3 b6 b7 ws (sched bs) ∧ Blk w b13 58 (s.list.map encW) ∧ Fs 182 a [(85, .int .i64 (k : Int)), (13, .pointer (some ⟨b13, 0, none⟩)), (1, .slice (some ⟨b, off, none⟩) 64 cap), (2, .pointer (some ⟨kb, 0, none⟩)), (3, .pointer (some ⟨b3, 0, none⟩)), (6, .pointer (some ⟨b6, 0, none⟩)), (7, .pointer (some ⟨b7, 0, none⟩))]) ⟨s8 ws, rfl, hI5, m13, hF.sub _ rfl⟩ ?_
      clear hI5 hF m13 hI hl
      rintro k a w hk ⟨s, hr, hI, m13, hF⟩ K' hK'
      refine wp_rs fun K23 hK23 => ?_
      refine s_val hF (x_lss rfl rfl rfl) (by decide) fun a hF => ?_
      refine s_end (hK23 _ _ ?_)
      refine wp_seq_k fun K24 hK24 => ?_
      refine wp_iff hF rfl (fun hc86 => ?_) (fun hc86 => ?_)
      · refine wp_skip (hK24 _ _ ?_)
        refine wp_seq_k fun K25 hK25 => ?_
        refine wp_block ?_
        refine wp_rs fun K26 hK26 => ?_
        refine s_val hF (x_move rfl) (by decide) fun a hF => ?_
        refine s_val hF (x_assign rfl) (by decide) fun a hF => ?_
        refine s_end (hK26 _ _ ?_)
        refine wp_rt wide_orders (by kernel_rfl) fun w120 hw120 K27 hK27 => ?_
        have hI1 : BkI w0 w120 b3 b6 b7 ws (sched bs) := by subst hw120; exact hI.drawn
        have hx : Blk w120 b13 58 (s.list.map encW) := by subst hw120; exact m13
        clear hw120 hI m13
        refine t_val hF (x_ixa rfl rfl (m_ixa0 (0) Tryd.underlying58 (size_flat flat43) (by omega) (by omega))) (by decide) fun a hF => ?_
        refine t_val hF (x_load rfl (m_load flat43 (cellW hx 0 (Nat.le_of_ble_eq_true rfl)))) (by decide) fun a hF => ?_
        refine t_val hF (x_ixa rfl rfl (m_ixa0 (4) Tryd.underlying58 (size_flat flat43) (by omega) (by omega))) (by decide) fun a hF => ?_
        refine t_val hF (x_load rfl (m_load flat43 (cellW hx 4 (Nat.le_of_ble_eq_true rfl)))) (by decide) fun a hF => ?_
        refine t_val hF (x_assign rfl) (by decide) fun a hF => ?_
        refine t_val hF (x_assign rfl) (by decide) fun a hF => ?_
        refine t_end (hK27 _ ?_)
        refine wp_rt wide_orders (by kernel_rfl) fun w121 hw121 K28 hK28 => ?_
        have hI2 : BkI w0 w121 b3 b6 b7 ws (sched bs) := by subst hw121; exact hI1.drawn
        have hy : Blk w121 b13 58 (s.list.map encW) := by subst hw121; exact hx
        clear hx
        have hx := hy
        have hk1 := hK.old hI2.below
        have hx7 := hI2.m7
        clear hw121 hI1
        refine t_val hF (x_ixa rfl rfl (m_ixa0 (7) Tryd.underlying58 (size_flat flat43) (by omega) (by omega))) (by decide) fun a hF => ?_
        refine t_val hF (x_load rfl (m_load flat43 (cellW hx 7 (Nat.le_of_ble_eq_true rfl)))) (by decide) fun a hF => ?_
        refine t_val hF (x_move rfl) (by decide) fun a hF => ?_
        refine t_same2 hF (enters_of Tryd.func33 (by kernel_rfl) rfl) rfl rfl (by decide) (turn28 (s.e) 6 (by decide) (by decide) w121) fun a hF => ?_
        refine t_val hF (x_move rfl) (by decide) fun a hF => ?_
        refine t_same2 hF (enters_of Tryd.func33 (by kernel_rfl) rfl) rfl rfl (by decide) (turn28 (s.e) 11 (by decide) (by decide) w121) fun a hF => ?_
        refine t_val hF (x_xor32 rfl rfl) (by decide) fun a hF => ?_
        refine t_val hF (x_move rfl) (by decide) fun a hF => ?_
        refine t_same2 hF (enters_of Tryd.func33 (by kernel_rfl) rfl) rfl rfl (by decide) (turn28 (s.e) 25 (by decide) (by decide) w121) fun a hF => ?_
        refine t_val hF (x_xor32 rfl rfl) (by decide) fun a hF => ?_
        refine t_val hF (x_add32 rfl rfl) (by decide) fun a hF => ?_
        refine t_val hF (x_move rfl) (by decide) fun a hF => ?_
        refine t_val hF (x_ixa rfl rfl (m_ixa0 (5) Tryd.underlying58 (size_flat flat43) (by omega) (by omega))) (by decide) fun a hF => ?_
        refine t_val hF (x_load rfl (m_load flat43 (cellW hx 5 (Nat.le_of_ble_eq_true rfl)))) (by decide) fun a hF => ?_
        refine t_val hF (x_and32 rfl rfl) (by decide) fun a hF => ?_
        refine t_val hF (x_move rfl) (by decide) fun a hF => ?_
        refine t_val hF (x_not32 rfl) (by decide) fun a hF => ?_
        refine t_val hF (x_ixa rfl rfl (m_ixa0 (6) Tryd.underlying58 (size_flat flat43) (by omega) (by omega))) (by decide) fun a hF => ?_
        refine t_val hF (x_load rfl (m_load flat43 (cellW hx 6 (Nat.le_of_ble_eq_true rfl)))) (by decide) fun a hF => ?_
        refine t_val hF (x_and32 rfl rfl) (by decide) fun a hF => ?_
        refine t_val hF (x_xor32 rfl rfl) (by decide) fun a hF => ?_
        refine t_val hF (x_add32 rfl rfl) (by decide) fun a hF => ?_
        refine t_val hF (x_move rfl) (by decide) fun a hF => ?_
        refine t_val hF (x_move rfl) (by decide) fun a hF => ?_
        refine t_val hF (x_nil rfl) (by decide) fun a hF => ?_
        refine t_val hF (x_ixa rfl rfl (m_ixa0 (k) Tryd.underlying66 (size_flat flat43) (by omega) (by omega))) (by decide) fun a hF => ?_
        refine t_val hF (x_load rfl (m_load flat43 (cellW hk1 k (by omega)))) (by decide) fun a hF => ?_
        refine t_val hF (x_add32 rfl rfl) (by decide) fun a hF => ?_
        refine t_val hF (x_move rfl) (by decide) fun a hF => ?_
        refine t_val hF (x_ixa rfl rfl (m_ixa0 (k) Tryd.underlying66 (size_flat flat43) (by omega) (by omega))) (by decide) fun a hF => ?_
        refine t_val hF (x_load rfl (m_load flat43 (cellP hx7 k (by omega)))) (by decide) fun a hF => ?_
        refine t_val hF (x_add32 rfl rfl) (by decide) fun a hF => ?_
        refine t_val hF (x_assign rfl) (by decide) fun a hF => ?_
        refine t_end (hK28 _ ?_)
        refine wp_rt wide_orders (by kernel_rfl) fun w122 hw122 K29 hK29 => ?_
        have hI3 : BkI w0 w122 b3 b6 b7 ws (sched bs) := by subst hw122; exact hI2.drawn
        have hz : Blk w122 b13 58 (s.list.map encW) := by subst hw122; exact hx
        clear hx
        have hx := hz
        clear hw122 hI2
        refine t_val hF (x_move rfl) (by decide) fun a hF => ?_
        refine t_same2 hF (enters_of Tryd.func33 (by kernel_rfl) rfl) rfl rfl (by decide) (turn28 (s.a) 2 (by decide) (by decide) w122) fun a hF => ?_
        refine t_val hF (x_move rfl) (by decide) fun a hF => ?_
        refine t_same2 hF (enters_of Tryd.func33 (by kernel_rfl) rfl) rfl rfl (by decide) (turn28 (s.a) 13 (by decide) (by decide) w122) fun a hF => ?_
        refine t_val hF (x_xor32 rfl rfl) (by decide) fun a hF => ?_
        refine t_val hF (x_move rfl) (by decide) fun a hF => ?_
        refine t_same2 hF (enters_of Tryd.func33 (by kernel_rfl) rfl) rfl rfl (by decide) (turn28 (s.a) 22 (by decide) (by decide) w122) fun a hF => ?_
        refine t_val hF (x_xor32 rfl rfl) (by decide) fun a hF => ?_
        refine t_val hF (x_move rfl) (by decide) fun a hF => ?_
        refine t_val hF (x_ixa rfl rfl (m_ixa0 (1) Tryd.underlying58 (size_flat flat43) (by omega) (by omega))) (by decide) fun a hF => ?_
        refine t_val hF (x_load rfl (m_load flat43 (cellW hx 1 (Nat.le_of_ble_eq_true rfl)))) (by decide) fun a hF => ?_
        refine t_val hF (x_and32 rfl rfl) (by decide) fun a hF => ?_
        refine t_val hF (x_move rfl) (by decide) fun a hF => ?_
        refine t_val hF (x_ixa rfl rfl (m_ixa0 (2) Tryd.underlying58 (size_flat flat43) (by omega) (by omega))) (by decide) fun a hF => ?_
        refine t_val hF (x_load rfl (m_load flat43 (cellW hx 2 (Nat.le_of_ble_eq_true rfl)))) (by decide) fun a hF => ?_
        refine t_val hF (x_and32 rfl rfl) (by decide) fun a hF => ?_
        refine t_val hF (x_xor32 rfl rfl) (by decide) fun a hF => ?_
        refine t_val hF (x_ixa rfl rfl (m_ixa0 (1) Tryd.underlying58 (size_flat flat43) (by omega) (by omega))) (by decide) fun a hF => ?_
        refine t_val hF (x_load rfl (m_load flat43 (cellW hx 1 (Nat.le_of_ble_eq_true rfl)))) (by decide) fun a hF => ?_
        refine t_val hF (x_ixa rfl rfl (m_ixa0 (2) Tryd.underlying58 (size_flat flat43) (by omega) (by omega))) (by decide) fun a hF => ?_
        refine t_val hF (x_load rfl (m_load flat43 (cellW hx 2 (Nat.le_of_ble_eq_true rfl)))) (by decide) fun a hF => ?_
        refine t_val hF (x_and32 rfl rfl) (by decide) fun a hF => ?_
        refine t_val hF (x_xor32 rfl rfl) (by decide) fun a hF => ?_
        refine t_val hF (x_add32 rfl rfl) (by decide) fun a hF => ?_
        refine t_val hF (x_assign rfl) (by decide) fun a hF => ?_
        refine t_end (hK29 _ ?_)
        refine wp_region_lit ?_
        refine s_val hF (x_move rfl) (by decide) fun a hF => ?_
        refine s_val hF (x_move rfl) (by decide) fun a hF => ?_
        refine s_val hF (x_add32 rfl rfl) (by decide) fun a hF => ?_
        refine s_val hF (x_ixa rfl rfl (m_ixa0 (0) Tryd.underlying58 (size_flat flat43) (by omega) (by omega))) (by decide) fun a hF => ?_
        refine s_val hF (x_load rfl (m_load flat43 (cellW hx 0 (Nat.le_of_ble_eq_true rfl)))) (by decide) fun a hF => ?_
        refine s_val hF (x_ixa rfl rfl (m_ixa0 (1) Tryd.underlying58 (size_flat flat43) (by omega) (by omega))) (by decide) fun a hF => ?_
        refine s_val hF (x_load rfl (m_load flat43 (cellW hx 1 (Nat.le_of_ble_eq_true rfl)))) (by decide) fun a hF => ?_
        refine s_val hF (x_ixa rfl rfl (m_ixa0 (2) Tryd.underlying58 (size_flat flat43) (by omega) (by omega))) (by decide) fun a hF => ?_
        refine s_val hF (x_load rfl (m_load flat43 (cellW hx 2 (Nat.le_of_ble_eq_true rfl)))) (by decide) fun a hF => ?_
        refine s_val hF (x_ixa rfl rfl (m_ixa0 (3) Tryd.underlying58 (size_flat flat43) (by omega) (by omega))) (by decide) fun a hF => ?_
        refine s_val hF (x_load rfl (m_load flat43 (cellW hx 3 (Nat.le_of_ble_eq_true rfl)))) (by decide) fun a hF => ?_
        refine s_val hF (x_move rfl) (by decide) fun a hF => ?_
        refine s_val hF (x_add32 rfl rfl) (by decide) fun a hF => ?_
        refine s_val hF (x_ixa rfl rfl (m_ixa0 (4) Tryd.underlying58 (size_flat flat43) (by omega) (by omega))) (by decide) fun a hF => ?_
        refine s_val hF (x_load rfl (m_load flat43 (cellW hx 4 (Nat.le_of_ble_eq_true rfl)))) (by decide) fun a hF => ?_
        refine s_val hF (x_ixa rfl rfl (m_ixa0 (5) Tryd.underlying58 (size_flat flat43) (by omega) (by omega))) (by decide) fun a hF => ?_
        refine s_val hF (x_load rfl (m_load flat43 (cellW hx 5 (Nat.le_of_ble_eq_true rfl)))) (by decide) fun a hF => ?_
        refine s_val hF (x_ixa rfl rfl (m_ixa0 (6) Tryd.underlying58 (size_flat flat43) (by omega) (by omega))) (by decide) fun a hF => ?_
        refine s_val hF (x_load rfl (m_load flat43 (cellW hx 6 (Nat.le_of_ble_eq_true rfl)))) (by decide) fun a hF => ?_
        refine s_val hF (x_build (vs := [(0, encW (rnd s (kTab.getD k 0) ((sched bs).getD k 0)).a), (1, encW (rnd s (kTab.getD k 0) ((sched bs).getD k 0)).b), (2, encW (rnd s (kTab.getD k 0) ((sched bs).getD k 0)).c), (3, encW (rnd s (kTab.getD k 0) ((sched bs).getD k 0)).d), (4, encW (rnd s (kTab.getD k 0) ((sched bs).getD k 0)).e), (5, encW (rnd s (kTab.getD k 0) ((sched bs).getD k 0)).f), (6, encW (rnd s (kTab.getD k 0) ((sched bs).getD k 0)).g), (7, encW (rnd s (kTab.getD k 0) ((sched bs).getD k 0)).h)]) rfl (run_build _ 58 _ ((rnd s (kTab.getD k 0) ((sched bs).getD k 0)).list.map encW).toArray (by kernel_rfl))) (by decide) fun a hF => ?_
        refine s_putW hF rfl rfl (size_wide wide44) hx rfl (oneW _) fun w6 m6 o6 => ?_
        refine s_end (hK25 _ _ ?_)
        refine wp_region_lit ?_
        refine s_val hF (x_addn (k + 1) (by omega) (by omega) rfl rfl) (by decide) fun a hF => ?_
        refine s_val hF (x_move rfl) (by decide) fun a hF => ?_
        refine s_end (hK' _ _ (by omega) ⟨rnd s (kTab.getD k 0) ((sched bs).getD k 0), ?_, hI3.only o6 hn13.2.2.2 hn13.1 hn13.2.1 hn13.2.2.1, m6, hF.sub _ rfl⟩)
        rw [← hr, show 64 - k = (64 - (k + 1)) + 1 by omega, rounds]
      · obtain rfl : k = 64 := by omega
        rw [show 64 - 64 = 0 from rfl, rounds] at hr
        refine wp_exit (hK21 _ _ ?_)
        refine wp_seq_k fun K30 hK30 => ?_
        refine wp_rs fun K31 hK31 => ?_
        refine s_val hF (x_move rfl) (by decide) fun a hF => ?_
        refine s_end (hK31 _ _ ?_)
        refine wp_block ?_
        refine wp_up 8 (fun i a w => BkI w0 w b3 b6 b7 (addUp ws s.list i) (sched bs) ∧ Blk w b13 58 (s.list.map encW) ∧ Fs 182 a [(169, .int .i64 (i : Int)), (13, .pointer (some ⟨b13, 0, none⟩)), (1, .slice (some ⟨b, off, none⟩) 64 cap), (2, .pointer (some ⟨kb, 0, none⟩)), (3, .pointer (some ⟨b3, 0, none⟩)), (6, .pointer (some ⟨b6, 0, none⟩)), (7, .pointer (some ⟨b7, 0, none⟩))]) ⟨by rw [addUp_zero]; exact hI, m13, hF.sub _ rfl⟩ ?_
        clear hI hF m13
        rintro i a w hi ⟨hI, m13, hF⟩ K' hK'
        refine wp_rs fun K32 hK32 => ?_
        refine s_val hF (x_lss rfl rfl rfl) (by decide) fun a hF => ?_
        refine s_end (hK32 _ _ ?_)
        refine wp_seq_k fun K33 hK33 => ?_
        refine wp_iff hF rfl (fun hc170 => ?_) (fun hc170 => ?_)
        · refine wp_skip (hK33 _ _ ?_)
          refine wp_seq_k fun K34 hK34 => ?_
          refine wp_block ?_
          refine wp_rs fun K35 hK35 => ?_
          refine s_val hF (x_move rfl) (by decide) fun a hF => ?_
          refine s_val hF (x_assign rfl) (by decide) fun a hF => ?_
          refine s_end (hK35 _ _ ?_)
          refine wp_rtt 8 wide_orders (by kernel_rfl) fun w128 hw128 => ?_
          have hI' : BkI w0 w128 b3 b6 b7 (addUp ws s.list i) (sched bs) := by subst hw128; exact hI.drawn
          have hx : Blk w128 b13 58 (s.list.map encW) := by subst hw128; exact m13
          have s8l : s.list.length = 8 := rfl
          clear hw128 hI m13
          show wpStill _ _ _ _ [_, _, _, _, _, _, _, _] _
          refine t_val hF (x_move rfl) (by decide) fun a hF => ?_
          refine t_val hF (x_ixa rfl rfl (m_ixa0 (i) Tryd.underlying58 (size_flat flat43) (by omega) (by omega))) (by decide) fun a hF => ?_
          refine t_val hF (x_load rfl (m_load flat43 (addUp_cell hI'.m3 (by omega)))) (by decide) fun a hF => ?_
          refine t_val hF (x_move rfl) (by decide) fun a hF => ?_
          refine t_val hF (x_ixa rfl rfl (m_ixa0 (i) Tryd.underlying58 (size_flat flat43) (by omega) (by omega))) (by decide) fun a hF => ?_
          refine t_val hF (x_load rfl (m_load flat43 (cellW hx i (by rw [s8l]; omega)))) (by decide) fun a hF => ?_
          refine t_val hF (x_add32 rfl rfl) (by decide) fun a hF => ?_
          refine t_val hF (x_ixa rfl rfl (m_ixa0 (i) Tryd.underlying58 (size_flat flat43) (by omega) (by omega))) (by decide) fun a hF => ?_
          refine t_end ?_
          show wpList _ _ _ [_] _ _
          refine s_put hF rfl rfl flat43 hI'.m3 (by rw [List.length_map, addUp_length]; omega) rfl fun w2 hB ho => ?_
          rw [addUp_put (by omega)] at hB
          refine s_end (hK34 _ _ ?_)
          refine wp_region_lit ?_
          refine s_val hF (x_addn (i + 1) (by omega) (by omega) rfl rfl) (by decide) fun a hF => ?_
          refine s_val hF (x_move rfl) (by decide) fun a hF => ?_
          refine s_end (hK' _ _ (by omega) ⟨hI'.put3 ho hB, hx.only ho (Ne.symm hn13.1), hF.sub _ rfl⟩)
        · obtain rfl : i = 8 := by omega
          have hm : mixW kTab ws bs = addUp ws s.list 8 := by rw [mixW, ← hr]
          have hl8 : ((addUp ws s.list 8).map encW).length = 8 := by rw [List.length_map, addUp_length, hws]
          refine wp_exit (hK30 _ _ ?_)
          refine wp_rs fun K36 hK36 => ?_
          refine s_val hF (x_load rfl (m_loadW (by rw [hl8]; exact wide44) hI.m3)) (by decide) fun a hF => ?_
          refine s_putW hF rfl rfl (by rw [hl8]; exact size_wide wide44) hI.m6 (by rw [hl8]; rfl) (oneW _) fun w9 m9 o9 => ?_
          refine s_end (hK36 _ _ ?_)
          refine wp_ret (res_cell hF rfl rfl m9 (by rw [hl8]; exact wide44) ⟨by rw [hm], hI.below.trans (o9.below hI.o6)⟩)
end Go.Proofs.YtefpenjcgplamaaDoor
