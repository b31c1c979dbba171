/- sha.mixed: what a block makes of eight words. -/
import Derived.Test.YtefpenjcgplamaaDoorSpread
namespace Go.Proofs.YtefpenjcgplamaaDoor
open Go.RowKit Go.Shelf
set_option linter.unusedVariables false
set_option linter.unusedSimpArgs false

/-- The table of roots. -/
def kTab : List UInt32 := [1116352408, 1899447441, 3049323471, 3921009573, 961987163, 1508970993, 2453635748, 2870763221, 3624381080, 310598401, 607225278, 1426881987, 1925078388, 2162078206, 2614888103, 3248222580, 3835390401, 4022224774, 264347078, 604807628, 770255983, 1249150122, 1555081692, 1996064986, 2554220882, 2821834349, 2952996808, 3210313671, 3336571891, 3584528711, 113926993, 338241895, 666307205, 773529912, 1294757372, 1396182291, 1695183700, 1986661051, 2177026350, 2456956037, 2730485921, 2820302411, 3259730800, 3345764771, 3516065817, 3600352804, 4094571909, 275423344, 430227734, 506948616, 659060556, 883997877, 958139571, 1322822218, 1537002063, 1747873779, 1955562222, 2024104815, 2227730452, 2361852424, 2428436474, 2756734187, 3204031479, 3329325298]
theorem kTab_length : kTab.length = 64 := rfl
/-- It stands where it was laid. -/
def Tab (w : World) : Prop := ∀ j, j < 64 → w.cell? ⟨0, j, none⟩ = some (encW (kTab.getD j 0))
theorem Tab.lt {w : World} (h : Tab w) : 0 < w.heap.size := by
  have := h 0 (by decide)
  rcases Nat.eq_zero_or_pos w.heap.size with h' | h'
  · have : w.heap[0]? = none := Array.getElem?_eq_none (by omega)
    simp [World.cell?, this] at *
  · exact h'
theorem Tab.below {B : Nat} {w w' : World} (h : Tab w) (hB : Below B w w') (h0 : 0 < B) : Tab w' := fun j hj => (hB.cell (p := ⟨0, j, none⟩) h0).trans (h j hj)
theorem Tab.old {w w' : World} (h : Tab w) (hB : Below w.heap.size w w') : Tab w' := h.below hB h.lt
attribute [irreducible] kTab

/-- What stays from round to round. -/
structure MxI (w0 w : World) (ws : List UInt32) (bs : List UInt8) (b2 b4 b5 : Nat) (us : List UInt32) : Prop where
  below : Below w0.heap.size w0 w
  o2 : w0.heap.size ≤ b2
  o4 : w0.heap.size ≤ b4
  ne4 : b4 ≠ b2
  ne5 : b5 ≠ b2
  m2 : Blk w b2 58 (us.map encW)
  m4 : Blk w b4 58 ((List.replicate 8 (0 : UInt32)).map encW)
  m5 : Blk w b5 66 ((sched bs).map encW)
  tab : Tab w
theorem MxI.drawn {w0 w : World} {ws : List UInt32} {bs : List UInt8} {b2 b4 b5 : Nat} {us : List UInt32} (h : MxI w0 w ws bs b2 b4 b5 us) : MxI w0 { w with drawn := w.drawn + 1 } ws bs b2 b4 b5 us :=
  ⟨h.below.drew, h.o2, h.o4, h.ne4, h.ne5, h.m2, h.m4, h.m5, h.tab⟩

theorem addUp_put {ws vs : List UInt32} {k : Nat} (h : k < ws.length) : ((addUp ws vs k).map encW).set k (encW (ws.getD k 0 + vs.getD k 0)) = (addUp ws vs (k + 1)).map encW := by
  rw [← addUp_set ws vs k h, List.map_set]
theorem addUp_cell {w : World} {b t k : Nat} {ws vs : List UInt32} (h : Blk w b t ((addUp ws vs k).map encW)) (hk : k < ws.length) : w.cell? ⟨b, k, none⟩ = some (encW (ws.getD k 0)) := h.cell (by rw [List.getElem?_map, addUp_get ws vs k hk]; rfl)

set_option maxRecDepth 100000 in
set_option maxHeartbeats 400000 in
theorem mixed24 (ws : List UInt32) (bs : List UInt8) (hws : ws.length = 8) (hbs : bs.length = 64) (w0 : World) (hT : Tab w0) :
    Calls Tryd.prog 24 #[.agg (ws.map encW).toArray, .agg (bs.map encB).toArray] w0 fun e w' => e = .returned (.agg ((mixW kTab ws bs).map encW).toArray) ∧ Below w0.heap.size w0 w' := by
  refine calls_fs 121 [(0, .agg (ws.map encW).toArray), (1, .agg (bs.map encB).toArray)] Tryd.func24 rfl rfl rfl rfl rfl fun a hF => ?_
  refine wp_rs fun K hK => ?_
  refine s_box (ws.map encW) hF (by decide) rfl rfl fun w1 b2 a e1 m2 B1 z1 hF => ?_
  refine s_box (bs.map encB) hF (by decide) rfl rfl fun w2 b3 a e2 m3 B2 z2 hF => ?_
  refine s_alloc hF (by decide) zero44 fun w3 b4 a e3 m4 B3 z3 hF => ?_
  refine s_end (hK _ _ ?_)
  refine wp_rs fun K hK => ?_
  have hb2 : Below w0.heap.size w0 w3 := (B1.trans (B2.mono (by omega))).trans (B3.mono (by omega))
  have m3' := m3.old B3
  refine s_val hF (x_load rfl (m_loadW (by rw [List.length_map, hbs]; exact wide45) m3')) (by decide) fun a hF => ?_
  refine s_call1 (R := fun v w' => v = .agg ((sched bs).map encW).toArray ∧ Below w3.heap.size w3 w') hF (enters_of Tryd.func30 (by kernel_rfl) rfl) rfl (by decide) ((spread29 bs hbs w3).mono fun e w' h => ⟨_, h.1, rfl, h.2⟩) ?_
  rintro _ w4 a ⟨rfl, B4⟩ hF
  refine s_alloc hF (by decide) zero49 fun w5 b5 a e5 m5 B5 z5 hF => ?_
  refine s_putW hF rfl rfl (by rw [List.length_map, sched_length]; exact size_wide wide49) m5 (by simp [sched_length]) (oneW _) fun w6 m5 ho => ?_
  refine s_end (hK _ _ ?_)
  have hI : MxI w0 w6 ws bs b2 b4 b5 ws := by
    have s4 := B4.size
    have hb : Below w3.heap.size w3 w5 := B4.trans (B5.mono (by omega))
    have hb' : Below w0.heap.size w0 w6 := (hb2.trans (hb.mono (by omega))).trans (ho.below (by omega))
    refine ⟨hb', by omega, by omega, by omega, by omega, ?_, ?_, m5, hT.old hb'⟩
    · exact ((((m2.old B2).old B3).old hb)).only ho (by omega)
    · exact (m4.old hb).only ho (by omega)
  clear m2 m3 m4 m5 ho m3' B1 B2 B3 B4 B5 hb2
  refine wp_rt wide_orders (by kernel_rfl) fun w' hw' K1 hK1 => ?_
  have hI' : MxI w0 w' ws bs b2 b4 b5 ws := by subst hw'; exact hI.drawn
  clear hw' hI
  have hx := hI'.m2
  refine t_val hF (x_ixa rfl rfl (m_ixa0 (0) Tryd.underlying58 (size_flat flat43) (by omega) (by omega))) (by decide) fun a hF => ?_
  refine t_val hF (x_load rfl (m_load flat43 (cellW hx 0 (by omega)))) (by decide) fun a hF => ?_
  refine t_val hF (x_ixa rfl rfl (m_ixa0 (1) Tryd.underlying58 (size_flat flat43) (by omega) (by omega))) (by decide) fun a hF => ?_
  refine t_val hF (x_load rfl (m_load flat43 (cellW hx 1 (by omega)))) (by decide) fun a hF => ?_
  refine t_val hF (x_ixa rfl rfl (m_ixa0 (2) Tryd.underlying58 (size_flat flat43) (by omega) (by omega))) (by decide) fun a hF => ?_
  refine t_val hF (x_load rfl (m_load flat43 (cellW hx 2 (by omega)))) (by decide) fun a hF => ?_
  refine t_val hF (x_ixa rfl rfl (m_ixa0 (3) Tryd.underlying58 (size_flat flat43) (by omega) (by omega))) (by decide) fun a hF => ?_
  refine t_val hF (x_load rfl (m_load flat43 (cellW hx 3 (by omega)))) (by decide) fun a hF => ?_
  refine t_val hF (x_assign rfl) (by decide) fun a hF => ?_
  refine t_val hF (x_assign rfl) (by decide) fun a hF => ?_
  refine t_val hF (x_assign rfl) (by decide) fun a hF => ?_
  refine t_val hF (x_assign rfl) (by decide) fun a hF => ?_
  refine t_end (hK1 _ ?_)
  refine wp_rt wide_orders (by kernel_rfl) fun w'' hw' K2 hK2 => ?_
  have hI : MxI w0 w'' ws bs b2 b4 b5 ws := by subst hw'; exact hI'.drawn
  clear hw' hI' hx
  have hx := hI.m2
  refine t_val hF (x_ixa rfl rfl (m_ixa0 (4) Tryd.underlying58 (size_flat flat43) (by omega) (by omega))) (by decide) fun a hF => ?_
  refine t_val hF (x_load rfl (m_load flat43 (cellW hx 4 (by omega)))) (by decide) fun a hF => ?_
  refine t_val hF (x_ixa rfl rfl (m_ixa0 (5) Tryd.underlying58 (size_flat flat43) (by omega) (by omega))) (by decide) fun a hF => ?_
  refine t_val hF (x_load rfl (m_load flat43 (cellW hx 5 (by omega)))) (by decide) fun a hF => ?_
  refine t_val hF (x_ixa rfl rfl (m_ixa0 (6) Tryd.underlying58 (size_flat flat43) (by omega) (by omega))) (by decide) fun a hF => ?_
  refine t_val hF (x_load rfl (m_load flat43 (cellW hx 6 (by omega)))) (by decide) fun a hF => ?_
  refine t_val hF (x_ixa rfl rfl (m_ixa0 (7) Tryd.underlying58 (size_flat flat43) (by omega) (by omega))) (by decide) fun a hF => ?_
  refine t_val hF (x_load rfl (m_load flat43 (cellW hx 7 (by omega)))) (by decide) fun a hF => ?_
  refine t_val hF (x_assign rfl) (by decide) fun a hF => ?_
  refine t_val hF (x_assign rfl) (by decide) fun a hF => ?_
  refine t_val hF (x_assign rfl) (by decide) fun a hF => ?_
  refine t_val hF (x_assign rfl) (by decide) fun a hF => ?_
  refine t_end (hK2 _ ?_)
  refine wp_seq_k fun K3 hK3 => ?_
  refine wp_rs fun K4 hK4 => ?_
  refine s_val hF (x_move rfl) (by decide) fun a hF => ?_
  refine s_end (hK4 _ _ ?_)
  refine wp_block ?_
  obtain ⟨fin, hfin⟩ : ∃ fin, fin = rounds kTab (sched bs) 64 0 (s8 ws) := ⟨_, rfl⟩
  refine wp_up 64 (fun k a w => ∃ s, rounds kTab (sched bs) (64 - k) k s = fin ∧ MxI w0 w ws bs b2 b4 b5 ws ∧ Fs 121 a [(37, .int .i64 (k : Int)), (6, encW s.a), (7, encW s.b), (8, encW s.c), (9, encW s.d), (10, encW s.e), (11, encW s.f), (12, encW s.g), (13, encW s.h), (2, .pointer (some ⟨b2, 0, none⟩)), (4, .pointer (some ⟨b4, 0, none⟩)), (5, .pointer (some ⟨b5, 0, none⟩))]) ⟨s8 ws, hfin.symm, hI, hF.sub _ rfl⟩ ?_
  clear hI hF hx hK hK1 hK2 hK4
  rintro k a w hk ⟨s, hr, hI, hF⟩ K' hK'
  refine wp_rs fun K2 hK2 => ?_
  by_cases hlt : k < 64
  · refine s_val hF (x_lss (b := true) (decide_eq_true (by omega)) rfl rfl) (by decide) fun a hF => ?_
    refine s_end (hK2 _ _ ?_)
    refine wp_seq_k fun K3 hK3 => ?_
    refine wp_if hF rfl (wp_skip (hK3 _ _ ?_))
    refine wp_seq_k fun K4 hK4 => ?_
    refine wp_block ?_
    refine wp_rs fun K5 hK5 => ?_
    refine s_val hF (x_move rfl) (by decide) fun a hF => ?_
    refine s_val hF (x_assign rfl) (by decide) fun a hF => ?_
    refine s_end (hK5 _ _ ?_)
    refine wp_rt wide_orders (by kernel_rfl) fun w' hw' K6 hK6 => ?_
    have hI' : MxI w0 w' ws bs b2 b4 b5 ws := by subst hw'; exact hI.drawn
    clear hw' hI
    have hx := hI'.m5
    have hsl := sched_length bs
    refine t_val hF (x_move rfl) (by decide) fun a hF => ?_
    refine t_val hF (x_move rfl) (by decide) fun a hF => ?_
    refine t_same2 hF ent30 rfl rfl (by decide) (turned30 (s.e) 6 (by decide) (by decide) w') fun a hF => ?_
    refine t_val hF (x_move rfl) (by decide) fun a hF => ?_
    refine t_same2 hF ent30 rfl rfl (by decide) (turned30 (s.e) 11 (by decide) (by decide) w') fun a hF => ?_
    refine t_val hF (x_xor32 rfl rfl) (by decide) fun a hF => ?_
    refine t_val hF (x_move rfl) (by decide) fun a hF => ?_
    refine t_same2 hF ent30 rfl rfl (by decide) (turned30 (s.e) 25 (by decide) (by decide) w') fun a hF => ?_
    refine t_val hF (x_xor32 rfl rfl) (by decide) fun a hF => ?_
    refine t_val hF (x_add32 rfl rfl) (by decide) fun a hF => ?_
    refine t_val hF (x_move rfl) (by decide) fun a hF => ?_
    refine t_val hF (x_move rfl) (by decide) fun a hF => ?_
    refine t_val hF (x_and32 rfl rfl) (by decide) fun a hF => ?_
    refine t_val hF (x_move rfl) (by decide) fun a hF => ?_
    refine t_val hF (x_not32 rfl) (by decide) fun a hF => ?_
    refine t_val hF (x_move rfl) (by decide) fun a hF => ?_
    refine t_val hF (x_and32 rfl rfl) (by decide) fun a hF => ?_
    refine t_val hF (x_xor32 rfl rfl) (by decide) fun a hF => ?_
    refine t_val hF (x_add32 rfl rfl) (by decide) fun a hF => ?_
    refine t_val hF (x_move rfl) (by decide) fun a hF => ?_
    refine t_val hF (x_ixa rfl rfl (m_ixa0 (k) Tryd.underlying66 (size_flat flat43) (by omega) (by omega))) (by decide) fun a hF => ?_
    refine t_val hF (x_load rfl (m_load flat43 (hI'.tab k hlt))) (by decide) fun a hF => ?_
    refine t_val hF (x_add32 rfl rfl) (by decide) fun a hF => ?_
    refine t_val hF (x_move rfl) (by decide) fun a hF => ?_
    refine t_val hF (x_ixa rfl rfl (m_ixa0 (k) Tryd.underlying66 (size_flat flat43) (by omega) (by omega))) (by decide) fun a hF => ?_
    refine t_val hF (x_load rfl (m_load flat43 (cellW hx k (by omega)))) (by decide) fun a hF => ?_
    refine t_val hF (x_add32 rfl rfl) (by decide) fun a hF => ?_
    refine t_val hF (x_assign rfl) (by decide) fun a hF => ?_
    refine t_end (hK6 _ ?_)
    refine wp_rs fun K7 hK7 => ?_
    refine s_val hF (x_move rfl) (by decide) fun a hF => ?_
    refine s_same2 hF ent30 rfl rfl (by decide) (turned30 (s.a) 2 (by decide) (by decide) w') fun a hF => ?_
    refine s_val hF (x_move rfl) (by decide) fun a hF => ?_
    refine s_same2 hF ent30 rfl rfl (by decide) (turned30 (s.a) 13 (by decide) (by decide) w') fun a hF => ?_
    refine s_val hF (x_xor32 rfl rfl) (by decide) fun a hF => ?_
    refine s_val hF (x_move rfl) (by decide) fun a hF => ?_
    refine s_same2 hF ent30 rfl rfl (by decide) (turned30 (s.a) 22 (by decide) (by decide) w') fun a hF => ?_
    refine s_val hF (x_xor32 rfl rfl) (by decide) fun a hF => ?_
    refine s_val hF (x_move rfl) (by decide) fun a hF => ?_
    refine s_val hF (x_move rfl) (by decide) fun a hF => ?_
    refine s_val hF (x_and32 rfl rfl) (by decide) fun a hF => ?_
    refine s_val hF (x_move rfl) (by decide) fun a hF => ?_
    refine s_val hF (x_move rfl) (by decide) fun a hF => ?_
    refine s_val hF (x_and32 rfl rfl) (by decide) fun a hF => ?_
    refine s_val hF (x_xor32 rfl rfl) (by decide) fun a hF => ?_
    refine s_val hF (x_move rfl) (by decide) fun a hF => ?_
    refine s_val hF (x_move rfl) (by decide) fun a hF => ?_
    refine s_val hF (x_and32 rfl rfl) (by decide) fun a hF => ?_
    refine s_val hF (x_xor32 rfl rfl) (by decide) fun a hF => ?_
    refine s_val hF (x_add32 rfl rfl) (by decide) fun a hF => ?_
    refine s_val hF (x_assign rfl) (by decide) fun a hF => ?_
    refine s_end (hK7 _ _ ?_)
    refine wp_rs fun K8 hK8 => ?_
    refine s_val hF (x_move rfl) (by decide) fun a hF => ?_
    refine s_val hF (x_move rfl) (by decide) fun a hF => ?_
    refine s_val hF (x_move rfl) (by decide) fun a hF => ?_
    refine s_val hF (x_move rfl) (by decide) fun a hF => ?_
    refine s_val hF (x_move rfl) (by decide) fun a hF => ?_
    refine s_val hF (x_add32 rfl rfl) (by decide) fun a hF => ?_
    refine s_val hF (x_assign rfl) (by decide) fun a hF => ?_
    refine s_val hF (x_assign rfl) (by decide) fun a hF => ?_
    refine s_val hF (x_assign rfl) (by decide) fun a hF => ?_
    refine s_val hF (x_assign rfl) (by decide) fun a hF => ?_
    refine s_end (hK8 _ _ ?_)
    refine wp_region_lit ?_
    refine s_val hF (x_move rfl) (by decide) fun a hF => ?_
    refine s_val hF (x_move rfl) (by decide) fun a hF => ?_
    refine s_val hF (x_move rfl) (by decide) fun a hF => ?_
    refine s_val hF (x_move rfl) (by decide) fun a hF => ?_
    refine s_val hF (x_move rfl) (by decide) fun a hF => ?_
    refine s_val hF (x_add32 rfl rfl) (by decide) fun a hF => ?_
    refine s_val hF (x_assign rfl) (by decide) fun a hF => ?_
    refine s_val hF (x_assign rfl) (by decide) fun a hF => ?_
    refine s_val hF (x_assign rfl) (by decide) fun a hF => ?_
    refine s_val hF (x_assign rfl) (by decide) fun a hF => ?_
    refine s_end (hK4 _ _ ?_)
    refine wp_region_lit ?_
    refine s_val hF (x_addn (k + 1) (by omega) (by omega) rfl rfl) (by decide) fun a hF => ?_
    refine s_val hF (x_move rfl) (by decide) fun a hF => ?_
    refine s_end (hK' _ _ hlt ⟨rnd s (kTab.getD k 0) ((sched bs).getD k 0), ?_, hI', hF.sub _ rfl⟩)
    rw [← hr, show 64 - k = (64 - (k + 1)) + 1 by omega, rounds]
  · obtain rfl : k = 64 := by omega
    refine s_val hF (x_lss (b := false) (decide_eq_false (by omega)) rfl rfl) (by decide) fun a hF => ?_
    refine s_end (hK2 _ _ ?_)
    refine wp_seq_k fun K5 hK5 => ?_
    refine wp_if hF rfl (wp_exit ?_)
    show K3 a w
    refine hK3 _ _ ?_
    rw [show 64 - 64 = 0 from rfl, rounds] at hr
    clear hK2 hK3 hK5 hK'
    refine wp_seq_k fun K hK => ?_
    refine wp_rs fun K1 hK1 => ?_
    refine s_val hF (x_move rfl) (by decide) fun a hF => ?_
    refine s_val hF (x_move rfl) (by decide) fun a hF => ?_
    refine s_val hF (x_move rfl) (by decide) fun a hF => ?_
    refine s_val hF (x_move rfl) (by decide) fun a hF => ?_
    refine s_val hF (x_move rfl) (by decide) fun a hF => ?_
    refine s_val hF (x_move rfl) (by decide) fun a hF => ?_
    refine s_val hF (x_move rfl) (by decide) fun a hF => ?_
    refine s_val hF (x_move rfl) (by decide) fun a hF => ?_
    refine s_val hF (x_build (vs := [(0, encW s.a), (1, encW s.b), (2, encW s.c), (3, encW s.d), (4, encW s.e), (5, encW s.f), (6, encW s.g), (7, encW s.h)]) rfl (run_build w 58 _ (s.list.map encW).toArray (by kernel_rfl))) (by decide) fun a hF => ?_
    refine s_val hF (x_move rfl) (by decide) fun a hF => ?_
    refine s_end (hK1 _ _ ?_)
    refine wp_block ?_
    refine wp_up 8 (fun k a w => MxI w0 w ws bs b2 b4 b5 (addUp ws s.list k) ∧ Fs 121 a [(109, .int .i64 (k : Int)), (108, .agg (s.list.map encW).toArray), (2, .pointer (some ⟨b2, 0, none⟩)), (4, .pointer (some ⟨b4, 0, none⟩))]) ⟨by rw [addUp_zero]; exact hI, hF.sub _ rfl⟩ ?_
    clear hI hF
    rintro k a w hk ⟨hI, hF⟩ K' hK'
    refine wp_rs fun K2 hK2 => ?_
    by_cases hlt : k < 8
    · refine s_val hF (x_lss (b := true) (decide_eq_true (by omega)) rfl rfl) (by decide) fun a hF => ?_
      refine s_end (hK2 _ _ ?_)
      refine wp_seq_k fun K3 hK3 => ?_
      refine wp_if hF rfl (wp_skip (hK3 _ _ ?_))
      refine wp_seq_k fun K4 hK4 => ?_
      refine wp_block ?_
      refine wp_rs fun K5 hK5 => ?_
      refine s_val hF (x_move rfl) (by decide) fun a hF => ?_
      refine s_val hF (x_ix (v := encW (s.list.getD k 0)) rfl rfl (m_ix k Tryd.underlying58 flat43 rfl rfl (by rw [List.getElem?_map, getD_get s.list k 0 (by simpa [S8.list] using hlt)]; rfl))) (by decide) fun a hF => ?_
      refine s_val hF (x_assign rfl) (by decide) fun a hF => ?_
      refine s_val hF (x_assign rfl) (by decide) fun a hF => ?_
      refine s_end (hK5 _ _ ?_)
      refine wp_region_lit ?_
      refine s_val hF (x_move rfl) (by decide) fun a hF => ?_
      refine s_val hF (x_ixa rfl rfl (m_ixa0 (k) Tryd.underlying58 (size_flat flat43) (by omega) (by omega))) (by decide) fun a hF => ?_
      refine s_val hF (x_load rfl (m_load flat43 (addUp_cell hI.m2 (by omega)))) (by decide) fun a hF => ?_
      refine s_val hF (x_move rfl) (by decide) fun a hF => ?_
      refine s_val hF (x_add32 rfl rfl) (by decide) fun a hF => ?_
      refine s_val hF (x_ixa rfl rfl (m_ixa0 (k) Tryd.underlying58 (size_flat flat43) (by omega) (by omega))) (by decide) fun a hF => ?_
      refine s_put hF rfl rfl flat43 hI.m2 (by rw [List.length_map, addUp_length]; omega) rfl fun w2 hB ho => ?_
      refine s_end (hK4 _ _ ?_)
      refine wp_region_lit ?_
      refine s_val hF (x_addn (k + 1) (by omega) (by omega) rfl rfl) (by decide) fun a hF => ?_
      refine s_val hF (x_move rfl) (by decide) fun a hF => ?_
      rw [addUp_put (by omega)] at hB
      refine s_end (hK' _ _ hlt ⟨⟨hI.below.trans (ho.below hI.o2), hI.o2, hI.o4, hI.ne4, hI.ne5, hB, hI.m4.only ho hI.ne4, hI.m5.only ho hI.ne5, ?_⟩, hF.sub _ rfl⟩)
      have := hT.lt
      have := hI.o2
      exact hI.tab.below (ho.below (B := 1) (by omega)) (by decide)
    · obtain rfl : k = 8 := by omega
      refine s_val hF (x_lss (b := false) (decide_eq_false (by omega)) rfl rfl) (by decide) fun a hF => ?_
      refine s_end (hK2 _ _ ?_)
      refine wp_seq_k fun K3 hK3 => ?_
      refine wp_if hF rfl (wp_exit ?_)
      show K a w
      refine hK _ _ ?_
      refine wp_rs fun K hK => ?_
      have hm : mixW kTab ws bs = addUp ws s.list 8 := by rw [mixW, ← hfin, ← hr]
      have hl8 : ((addUp ws s.list 8).map encW).length = 8 := by rw [List.length_map, addUp_length, hws]
      refine s_val hF (x_load rfl (m_loadW (by rw [hl8]; exact wide44) hI.m2)) (by decide) fun a hF => ?_
      refine s_putW hF rfl rfl (by rw [hl8]; exact size_wide wide44) hI.m4 (by rw [hl8]; rfl) (oneW _) fun w2 hB ho => ?_
      refine s_end (hK _ _ ?_)
      refine wp_ret (res_cell hF rfl rfl hB (by rw [hl8]; exact wide44) ⟨by rw [hm], hI.below.trans (ho.below hI.o4)⟩)
end Go.Proofs.YtefpenjcgplamaaDoor
