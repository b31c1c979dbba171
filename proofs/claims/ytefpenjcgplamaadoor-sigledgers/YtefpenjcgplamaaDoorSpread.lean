/- sha.spread: a block's words. -/
import Derived.Test.YtefpenjcgplamaaDoorRot
namespace Go.Proofs.YtefpenjcgplamaaDoor
open Go.RowKit Go.Shelf
set_option linter.unusedVariables false
set_option linter.unusedSimpArgs false

theorem cellB {w : World} {b t : Nat} {bs : List UInt8} (h : Blk w b t (bs.map encB)) (j : Nat) (hj : j < bs.length) : w.cell? ⟨b, j, none⟩ = some (encB (bs.getD j 0)) := h.cell (by rw [List.getElem?_map, getD_get bs j 0 hj]; rfl)
theorem cellP {w : World} {b t n : Nat} {ws : List UInt32} (h : Blk w b t ((pad n 0 ws).map encW)) (j : Nat) (hj : j < ws.length) : w.cell? ⟨b, j, none⟩ = some (encW (ws.getD j 0)) := h.cell (by rw [List.getElem?_map, pad_get n 0 ws j hj]; rfl)
theorem cellW {w : World} {b t : Nat} {ws : List UInt32} (h : Blk w b t (ws.map encW)) (j : Nat) (hj : j < ws.length) : w.cell? ⟨b, j, none⟩ = some (encW (ws.getD j 0)) := h.cell (by rw [List.getElem?_map, getD_get ws j 0 hj]; rfl)
theorem set_pad {n : Nat} {ws : List UInt32} (v : UInt32) (k : Nat) (hk : ws.length = k) (h : k < n) : ((pad n 0 ws).map encW).set k (encW v) = (pad n 0 (ws ++ [v])).map encW := by
  subst hk
  rw [← pad_set n 0 v ws h, List.map_set]
theorem len_pad {n : Nat} {ws : List UInt32} (h : ws.length ≤ n) : ((pad n 0 ws).map encW).length = n := by rw [List.length_map, pad_length n 0 ws h]
theorem oneW (l : List UInt32) : ∀ u ∈ l.map encW, u.oneCell' = true := by
  intro u hu
  simp only [List.mem_map] at hu
  obtain ⟨c, _, rfl⟩ := hu
  rfl
theorem oneB (l : List UInt8) : ∀ u ∈ l.map encB, u.oneCell' = true := by
  intro u hu
  simp only [List.mem_map] at hu
  obtain ⟨c, _, rfl⟩ := hu
  rfl

/-- What stays from round to round. -/
structure SpI (w0 w : World) (bs : List UInt8) (b1 b2 b3 : Nat) (ws : List UInt32) : Prop where
  below : Below w0.heap.size w0 w
  o1 : w0.heap.size ≤ b1
  o2 : w0.heap.size ≤ b2
  o3 : w0.heap.size ≤ b3
  ne1 : b1 ≠ b3
  ne2 : b2 ≠ b3
  m1 : Blk w b1 59 (bs.map encB)
  m2 : Blk w b2 66 ((List.replicate 64 (0 : UInt32)).map encW)
  m3 : Blk w b3 66 ((pad 64 0 ws).map encW)

theorem SpI.drawn {w0 w : World} {bs : List UInt8} {b1 b2 b3 : Nat} {ws : List UInt32} (h : SpI w0 w bs b1 b2 b3 ws) : SpI w0 { w with drawn := w.drawn + 1 } bs b1 b2 b3 ws :=
  ⟨h.below.drew, h.o1, h.o2, h.o3, h.ne1, h.ne2, h.m1, h.m2, h.m3⟩
theorem SpI.put {w0 w w' : World} {bs : List UInt8} {b1 b2 b3 k : Nat} {ws : List UInt32} {v : UInt32} (h : SpI w0 w bs b1 b2 b3 ws) (hk : ws.length = k) (hlt : k < 64) (hB : Blk w' b3 66 (((pad 64 0 ws).map encW).set k (encW v))) (ho : Only b3 w w') : SpI w0 w' bs b1 b2 b3 (ws ++ [v]) :=
  ⟨h.below.trans (ho.below h.o3), h.o1, h.o2, h.o3, h.ne1, h.ne2, h.m1.only ho h.ne1, h.m2.only ho h.ne2, by rw [← set_pad v k hk hlt]; exact hB⟩

set_option maxRecDepth 100000 in
set_option maxHeartbeats 400000 in
theorem spread29 (bs : List UInt8) (hbs : bs.length = 64) (w0 : World) :
    Calls Tryd.prog 30 #[.agg (bs.map encB).toArray] w0 fun e w' => e = .returned (.agg ((sched bs).map encW).toArray) ∧ Below w0.heap.size w0 w' := by
  refine calls_fs 97 [(0, .agg (bs.map encB).toArray)] Tryd.func30 rfl rfl rfl rfl rfl fun a hF => ?_
  refine wp_rs fun K hK => ?_
  refine s_box (bs.map encB) hF (by decide) rfl rfl fun w1 b1 a e1 m1 B1 z1 hF => ?_
  refine s_alloc hF (by decide) zero49 fun w2 b2 a e2 m2 B2 z2 hF => ?_
  refine s_end (hK _ _ ?_)
  refine wp_rs fun K hK => ?_
  refine s_alloc hF (by decide) zero49 fun w3 b3 a e3 m3 B3 z3 hF => ?_
  refine s_end (hK _ _ ?_)
  refine wp_seq_k fun K hK => ?_
  refine wp_rs fun K1 hK1 => ?_
  refine s_val hF (x_move rfl) (by decide) fun a hF => ?_
  refine s_end (hK1 _ _ ?_)
  have hI : SpI w0 w3 bs b1 b2 b3 [] := by
    refine ⟨?_, by omega, by omega, by omega, by omega, by omega, ?_, ?_, ?_⟩
    · exact (B1.trans (B2.mono (by omega))).trans (B3.mono (by omega))
    · exact (m1.old B2).old B3
    · exact m2.old B3
    · rw [pad_nil]; exact m3
  clear m1 m2 m3
  refine wp_block ?_
  refine wp_up 16 (fun k a w => ∃ ws, ws.length = k ∧ grow (fun l => word4 bs l.length) (16 - k) ws = first16 bs ∧ SpI w0 w bs b1 b2 b3 ws ∧ Fs 97 a [(8, .int .i64 (k : Int)), (1, .pointer (some ⟨b1, 0, none⟩)), (2, .pointer (some ⟨b2, 0, none⟩)), (3, .pointer (some ⟨b3, 0, none⟩))]) ⟨[], rfl, by rw [first16], hI, hF.sub _ rfl⟩ ?_
  rintro k a w hk ⟨ws, hl, hg, hI, hF⟩ K' hK'
  refine wp_rs fun K2 hK2 => ?_
  by_cases hlt : k < 16
  · refine s_val hF (x_lss (b := true) (decide_eq_true (by omega)) rfl rfl) (by decide) fun a hF => ?_
    refine s_end (hK2 _ _ ?_)
    refine wp_seq_k fun K3 hK3 => ?_
    refine wp_if hF rfl (wp_skip (hK3 _ _ ?_))
    refine wp_seq_k fun K4 hK4 => ?_
    refine wp_block ?_
    refine wp_rs fun K5 hK5 => ?_
    refine s_val hF (x_move rfl) (by decide) fun a hF => ?_
    refine s_val hF (x_assign rfl) (by decide) fun a hF => ?_
    refine s_end (hK5 _ _ ?_)
    refine wp_rtt 31 wide_orders (by kernel_rfl) fun w' hw' => ?_
    have hI' : SpI w0 w' bs b1 b2 b3 ws := by subst hw'; exact hI.drawn
    clear hw' hI
    have hx := hI'.m1
    show wpStill _ _ _ _ [_, _, _, _, _, _, _, _, _, _, _, _, _, _, _, _, _, _, _, _, _, _, _, _, _, _, _, _, _, _, _] _
    refine t_val hF (x_move rfl) (by decide) fun a hF => ?_
    refine t_val hF (x_move rfl) (by decide) fun a hF => ?_
    refine t_val hF (x_mul (by omega) (by omega) rfl rfl) (by decide) fun a hF => ?_
    refine t_val hF (x_ixa rfl rfl (m_ixa0 (4 * k) Tryd.underlying59 (size_flat flat5) (by omega) (by omega))) (by decide) fun a hF => ?_
    refine t_val hF (x_load rfl (m_load flat5 (cellB hx (4 * k) (by omega)))) (by decide) fun a hF => ?_
    refine t_val hF (x_b2w Tryd.underlying5 Tryd.underlying57 rfl) (by decide) fun a hF => ?_
    refine t_val hF (x_shl32 24 rfl (by decide) rfl rfl) (by decide) fun a hF => ?_
    refine t_val hF (x_move rfl) (by decide) fun a hF => ?_
    refine t_val hF (x_mul (by omega) (by omega) rfl rfl) (by decide) fun a hF => ?_
    refine t_val hF (x_add (by omega) (by omega) rfl rfl) (by decide) fun a hF => ?_
    refine t_val hF (x_ixa rfl rfl (m_ixa0 (4 * k + 1) Tryd.underlying59 (size_flat flat5) (by omega) (by omega))) (by decide) fun a hF => ?_
    refine t_val hF (x_load rfl (m_load flat5 (cellB hx (4 * k + 1) (by omega)))) (by decide) fun a hF => ?_
    refine t_val hF (x_b2w Tryd.underlying5 Tryd.underlying57 rfl) (by decide) fun a hF => ?_
    refine t_val hF (x_shl32 16 rfl (by decide) rfl rfl) (by decide) fun a hF => ?_
    refine t_val hF (x_or32 rfl rfl) (by decide) fun a hF => ?_
    refine t_val hF (x_move rfl) (by decide) fun a hF => ?_
    refine t_val hF (x_mul (by omega) (by omega) rfl rfl) (by decide) fun a hF => ?_
    refine t_val hF (x_add (by omega) (by omega) rfl rfl) (by decide) fun a hF => ?_
    refine t_val hF (x_ixa rfl rfl (m_ixa0 (4 * k + 2) Tryd.underlying59 (size_flat flat5) (by omega) (by omega))) (by decide) fun a hF => ?_
    refine t_val hF (x_load rfl (m_load flat5 (cellB hx (4 * k + 2) (by omega)))) (by decide) fun a hF => ?_
    refine t_val hF (x_b2w Tryd.underlying5 Tryd.underlying57 rfl) (by decide) fun a hF => ?_
    refine t_val hF (x_shl32 8 rfl (by decide) rfl rfl) (by decide) fun a hF => ?_
    refine t_val hF (x_or32 rfl rfl) (by decide) fun a hF => ?_
    refine t_val hF (x_move rfl) (by decide) fun a hF => ?_
    refine t_val hF (x_mul (by omega) (by omega) rfl rfl) (by decide) fun a hF => ?_
    refine t_val hF (x_add (by omega) (by omega) rfl rfl) (by decide) fun a hF => ?_
    refine t_val hF (x_ixa rfl rfl (m_ixa0 (4 * k + 3) Tryd.underlying59 (size_flat flat5) (by omega) (by omega))) (by decide) fun a hF => ?_
    refine t_val hF (x_load rfl (m_load flat5 (cellB hx (4 * k + 3) (by omega)))) (by decide) fun a hF => ?_
    refine t_val hF (x_b2w Tryd.underlying5 Tryd.underlying57 rfl) (by decide) fun a hF => ?_
    refine t_val hF (x_or32 rfl rfl) (by decide) fun a hF => ?_
    refine t_val hF (x_ixa rfl rfl (m_ixa0 (k) Tryd.underlying66 (size_flat flat43) (by omega) (by omega))) (by decide) fun a hF => ?_
    refine t_end ?_
    show wpList _ _ _ [_] _ _
    refine s_put hF rfl rfl flat43 hI'.m3 (by rw [len_pad (by omega)]; omega) rfl fun w2 hB ho => ?_
    refine s_end (hK4 _ _ ?_)
    refine wp_region_lit ?_
    refine s_val hF (x_add (by omega) (by omega) rfl rfl) (by decide) fun a hF => ?_
    refine s_val hF (x_move rfl) (by decide) fun a hF => ?_
    refine s_end (hK' _ _ hlt ⟨ws ++ [word4 bs k], by simp [hl], ?_, hI'.put hl (by omega) hB ho, hF.sub _ rfl⟩)
    rw [← hg, show 16 - k = (16 - (k + 1)) + 1 by omega, grow, hl]
  · obtain rfl : k = 16 := by omega
    refine s_val hF (x_lss (b := false) (decide_eq_false (by omega)) rfl rfl) (by decide) fun a hF => ?_
    refine s_end (hK2 _ _ ?_)
    refine wp_seq_k fun K3 hK3 => ?_
    refine wp_if hF rfl (wp_exit ?_)
    show K a w
    refine hK _ _ ?_
    rw [show 16 - 16 = 0 from rfl, grow] at hg
    subst hg
    clear hK2 hK3 hK' hlt hk K2 K3 K' hK1 K1
    refine wp_seq_k fun K hK => ?_
    refine wp_rs fun K1 hK1 => ?_
    refine s_val hF (x_assign rfl) (by decide) fun a hF => ?_
    refine s_end (hK1 _ _ ?_)
    refine wp_block ?_
    refine wp_up 48 (fun k a w => ∃ ws, ws.length = 16 + k ∧ grow nextw (48 - k) ws = sched bs ∧ SpI w0 w bs b1 b2 b3 ws ∧ Fs 97 a [(5, .int .i64 ((16 + k : Nat) : Int)), (2, .pointer (some ⟨b2, 0, none⟩)), (3, .pointer (some ⟨b3, 0, none⟩))]) ⟨first16 bs, hl, by rw [sched], hI, hF.sub _ rfl⟩ ?_
    clear hI hl hF
    rintro k a w hk ⟨ws, hl, hg, hI, hF⟩ K' hK'
    refine wp_seq_k fun K3 hK3 => ?_
    refine wp_rs fun K2 hK2 => ?_
    by_cases hlt : k < 48
    · refine s_val hF (x_move rfl) (by decide) fun a hF => ?_
      refine s_val hF (x_lss (b := true) (decide_eq_true (by omega)) rfl rfl) (by decide) fun a hF => ?_
      refine s_end (hK2 _ _ ?_)
      refine wp_if hF rfl (wp_skip (hK3 _ _ ?_))
      refine wp_seq_k fun K4 hK4 => ?_
      refine wp_block ?_
      refine wp_rt wide_orders (by kernel_rfl) fun w' hw' K5 hK5 => ?_
      have hI' : SpI w0 w' bs b1 b2 b3 ws := by subst hw'; exact hI.drawn
      clear hw' hI
      have hx := hI'.m3
      refine t_val hF (x_move rfl) (by decide) fun a hF => ?_
      refine t_val hF (x_sub (by omega) (by omega) rfl rfl) (by decide) fun a hF => ?_
      refine t_val hF (x_ixa rfl rfl (m_ixa0 (ws.length - 15) Tryd.underlying66 (size_flat flat43) (by omega) (by omega))) (by decide) fun a hF => ?_
      refine t_val hF (x_load rfl (m_load flat43 (cellP hx (ws.length - 15) (by omega)))) (by decide) fun a hF => ?_
      refine t_same2 hF ent30 rfl rfl (by decide) (turned30 (ws.getD (ws.length - 15) 0) 7 (by decide) (by decide) w') fun a hF => ?_
      refine t_val hF (x_move rfl) (by decide) fun a hF => ?_
      refine t_val hF (x_sub (by omega) (by omega) rfl rfl) (by decide) fun a hF => ?_
      refine t_val hF (x_ixa rfl rfl (m_ixa0 (ws.length - 15) Tryd.underlying66 (size_flat flat43) (by omega) (by omega))) (by decide) fun a hF => ?_
      refine t_val hF (x_load rfl (m_load flat43 (cellP hx (ws.length - 15) (by omega)))) (by decide) fun a hF => ?_
      refine t_same2 hF ent30 rfl rfl (by decide) (turned30 (ws.getD (ws.length - 15) 0) 18 (by decide) (by decide) w') fun a hF => ?_
      refine t_val hF (x_xor32 rfl rfl) (by decide) fun a hF => ?_
      refine t_val hF (x_move rfl) (by decide) fun a hF => ?_
      refine t_val hF (x_sub (by omega) (by omega) rfl rfl) (by decide) fun a hF => ?_
      refine t_val hF (x_ixa rfl rfl (m_ixa0 (ws.length - 15) Tryd.underlying66 (size_flat flat43) (by omega) (by omega))) (by decide) fun a hF => ?_
      refine t_val hF (x_load rfl (m_load flat43 (cellP hx (ws.length - 15) (by omega)))) (by decide) fun a hF => ?_
      refine t_val hF (x_shr32 3 rfl (by decide) rfl rfl) (by decide) fun a hF => ?_
      refine t_val hF (x_xor32 rfl rfl) (by decide) fun a hF => ?_
      refine t_val hF (x_assign rfl) (by decide) fun a hF => ?_
      refine t_end (hK5 _ ?_)
      refine wp_rt wide_orders (by kernel_rfl) fun w'' hw' K6 hK6 => ?_
      have hI'' : SpI w0 w'' bs b1 b2 b3 ws := by subst hw'; exact hI'.drawn
      clear hw' hI' hx
      have hx := hI''.m3
      refine t_val hF (x_move rfl) (by decide) fun a hF => ?_
      refine t_val hF (x_sub (by omega) (by omega) rfl rfl) (by decide) fun a hF => ?_
      refine t_val hF (x_ixa rfl rfl (m_ixa0 (ws.length - 2) Tryd.underlying66 (size_flat flat43) (by omega) (by omega))) (by decide) fun a hF => ?_
      refine t_val hF (x_load rfl (m_load flat43 (cellP hx (ws.length - 2) (by omega)))) (by decide) fun a hF => ?_
      refine t_same2 hF ent30 rfl rfl (by decide) (turned30 (ws.getD (ws.length - 2) 0) 17 (by decide) (by decide) w'') fun a hF => ?_
      refine t_val hF (x_move rfl) (by decide) fun a hF => ?_
      refine t_val hF (x_sub (by omega) (by omega) rfl rfl) (by decide) fun a hF => ?_
      refine t_val hF (x_ixa rfl rfl (m_ixa0 (ws.length - 2) Tryd.underlying66 (size_flat flat43) (by omega) (by omega))) (by decide) fun a hF => ?_
      refine t_val hF (x_load rfl (m_load flat43 (cellP hx (ws.length - 2) (by omega)))) (by decide) fun a hF => ?_
      refine t_same2 hF ent30 rfl rfl (by decide) (turned30 (ws.getD (ws.length - 2) 0) 19 (by decide) (by decide) w'') fun a hF => ?_
      refine t_val hF (x_xor32 rfl rfl) (by decide) fun a hF => ?_
      refine t_val hF (x_move rfl) (by decide) fun a hF => ?_
      refine t_val hF (x_sub (by omega) (by omega) rfl rfl) (by decide) fun a hF => ?_
      refine t_val hF (x_ixa rfl rfl (m_ixa0 (ws.length - 2) Tryd.underlying66 (size_flat flat43) (by omega) (by omega))) (by decide) fun a hF => ?_
      refine t_val hF (x_load rfl (m_load flat43 (cellP hx (ws.length - 2) (by omega)))) (by decide) fun a hF => ?_
      refine t_val hF (x_shr32 10 rfl (by decide) rfl rfl) (by decide) fun a hF => ?_
      refine t_val hF (x_xor32 rfl rfl) (by decide) fun a hF => ?_
      refine t_val hF (x_assign rfl) (by decide) fun a hF => ?_
      refine t_end (hK6 _ ?_)
      refine wp_rtt 15 wide_orders (by kernel_rfl) fun w' hw' => ?_
      have hI' : SpI w0 w' bs b1 b2 b3 ws := by subst hw'; exact hI''.drawn
      clear hw' hI'' hx
      have hx := hI'.m3
      show wpStill _ _ _ _ [_, _, _, _, _, _, _, _, _, _, _, _, _, _, _] _
      refine t_val hF (x_move rfl) (by decide) fun a hF => ?_
      refine t_val hF (x_move rfl) (by decide) fun a hF => ?_
      refine t_val hF (x_sub (by omega) (by omega) rfl rfl) (by decide) fun a hF => ?_
      refine t_val hF (x_ixa rfl rfl (m_ixa0 (ws.length - 16) Tryd.underlying66 (size_flat flat43) (by omega) (by omega))) (by decide) fun a hF => ?_
      refine t_val hF (x_load rfl (m_load flat43 (cellP hx (ws.length - 16) (by omega)))) (by decide) fun a hF => ?_
      refine t_val hF (x_move rfl) (by decide) fun a hF => ?_
      refine t_val hF (x_add32 rfl rfl) (by decide) fun a hF => ?_
      refine t_val hF (x_move rfl) (by decide) fun a hF => ?_
      refine t_val hF (x_sub (by omega) (by omega) rfl rfl) (by decide) fun a hF => ?_
      refine t_val hF (x_ixa rfl rfl (m_ixa0 (ws.length - 7) Tryd.underlying66 (size_flat flat43) (by omega) (by omega))) (by decide) fun a hF => ?_
      refine t_val hF (x_load rfl (m_load flat43 (cellP hx (ws.length - 7) (by omega)))) (by decide) fun a hF => ?_
      refine t_val hF (x_add32 rfl rfl) (by decide) fun a hF => ?_
      refine t_val hF (x_move rfl) (by decide) fun a hF => ?_
      refine t_val hF (x_add32 rfl rfl) (by decide) fun a hF => ?_
      refine t_val hF (x_ixa rfl rfl (m_ixa0 (ws.length) Tryd.underlying66 (size_flat flat43) (by omega) (by omega))) (by decide) fun a hF => ?_
      refine t_end ?_
      show wpList _ _ _ [_] _ _
      refine s_put hF rfl rfl flat43 hI'.m3 (by rw [len_pad (by omega)]; omega) rfl fun w2 hB ho => ?_
      refine s_end (hK4 _ _ ?_)
      refine wp_region_lit ?_
      refine s_val hF (x_move rfl) (by decide) fun a hF => ?_
      refine s_val hF (x_addn (16 + (k + 1)) (by omega) (by omega) rfl rfl) (by decide) fun a hF => ?_
      refine s_val hF (x_assign rfl) (by decide) fun a hF => ?_
      refine s_end (hK' _ _ hlt ⟨ws ++ [nextw ws], by simp [hl]; omega, ?_, hI'.put rfl (by omega) hB ho, hF.sub _ rfl⟩)
      rw [← hg, show 48 - k = (48 - (k + 1)) + 1 by omega, grow]
    · obtain rfl : k = 48 := by omega
      refine s_val hF (x_move rfl) (by decide) fun a hF => ?_
      refine s_val hF (x_lss (b := false) (decide_eq_false (by omega)) rfl rfl) (by decide) fun a hF => ?_
      refine s_end (hK2 _ _ ?_)
      refine wp_if hF rfl (wp_exit ?_)
      show K a w
      refine hK _ _ ?_
      rw [show 48 - 48 = 0 from rfl, grow] at hg
      subst hg
      refine wp_rs fun K hK => ?_
      have m3 := hI.m3
      rw [pad_full 64 0 _ (sched_length bs)] at m3
      refine s_val hF (x_load rfl (m_loadW (by rw [List.length_map, sched_length]; exact wide49) m3)) (by decide) fun a hF => ?_
      refine s_putW hF rfl rfl (by rw [List.length_map, sched_length]; exact size_wide wide49) hI.m2 (by simp [sched_length]) (oneW _) fun w2 hB ho => ?_
      refine s_end (hK _ _ ?_)
      refine wp_ret (res_cell hF rfl rfl hB (by rw [List.length_map, sched_length]; exact wide49) ⟨rfl, hI.below.trans (ho.below hI.o2)⟩)
end Go.Proofs.YtefpenjcgplamaaDoor
