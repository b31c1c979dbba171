/- ShaSums, ShaLong: the walks. -/
import Derived.Test.YtjohaokdfgkdjaaDoorRsum
namespace Go.Proofs.YtjohaokdfgkdjaaDoor
open Go.RowKit Go.Shelf
set_option linter.unusedVariables false
set_option linter.unusedSimpArgs false

/-- A region that draws its order, whose operations and calls keep to a class of worlds. -/
theorem wp_rq {P : Program} {Q : Exit → Act → World → Prop} {a : Act} {w : World} {y : Code} {id : Nat} {l : List Oper} (C : World → Prop) (hm : P.follows .mixedOrders = true) (hB : Region.lexB .any l.toArray = true) (hC : C { w with drawn := w.drawn + 1 })
    (h : ∀ K : Act → World → Prop, (∀ a w, y.wp P Q a w → K a w) → wpQuiet P l.toArray C (fun a' => ∀ w', C w' → K a' w') l a) : (Code.seq (.region id l.toArray true) y).wp P Q a w :=
  wp_seq_k fun K hK => wp_region_quiet hm hB hC (by rw [show l.toArray.toList = l from by simp]; exact h K hK)

set_option maxRecDepth 100000 in
set_option maxHeartbeats 800000 in
theorem shaSums_walk (bs : List UInt8) (v : Value) (w0 : World) (hR : RB w0.heap.size w0 v bs) (hlen : bs.length + 4096 ≤ 140737488355328) (hT : Tab w0) : Calls Tryd.prog 3 #[v] w0 fun e w' => e = .returned (.bool true) ∧ Below w0.heap.size w0 w' := by
  obtain ⟨ds, hds⟩ : ∃ ds, ds = shaL kTab bs := ⟨_, rfl⟩
  have hd32 : ds.length = 32 := by rw [hds, shaL_length]
  have hl32 : (ds.map encB).length = 32 := by rw [List.length_map, hd32]
  refine calls_fs 27 [(0, v)] Tryd.func3 rfl rfl rfl rfl rfl fun a hF => ?_
  refine wp_rs fun K1 hK1 => ?_
  refine s_val hF (x_assign rfl) (by decide) fun a hF => ?_
  refine s_end (hK1 _ _ ?_)
  refine wp_rs fun K2 hK2 => ?_
  refine s_val hF (x_move rfl) (by decide) fun a hF => ?_
  refine s_call1 (R := fun v w' => v = .agg (ds.map encB).toArray ∧ Below w0.heap.size w0 w') hF (enters_of Tryd.func9 (by kernel_rfl) rfl) rfl (by decide) ((sum9 _ bs _ w0 hR hT (by omega)).mono fun e w' h => ⟨_, h.1, by rw [hds], h.2⟩) ?_
  rintro _ w1 a ⟨rfl, B1⟩ hF
  refine s_alloc hF (by decide) zero24 fun w2 b3 a e3 m3 B2 z2 hF => ?_
  refine s_putW hF rfl rfl (by rw [hl32]; exact size_wide wide24) m3 (by rw [hl32]; rfl) (oneB _) fun w3 m3 o3 => ?_
  have hB3 := (B1.trans (B2.mono B1.size)).trans (o3.below (by have := B1.size; omega))
  refine s_end (hK2 _ _ ?_)
  refine wp_rs fun K3 hK3 => ?_
  refine s_val hF (x_load rfl (m_loadW (by rw [hl32]; exact wide24) m3)) (by decide) fun a hF => ?_
  refine s_call1 (R := fun v w' => v = .string ⟨(hexL ds).toArray⟩ ∧ Below w3.heap.size w3 w') hF (enters_of Tryd.func10 (by kernel_rfl) rfl) rfl (by decide) ((hex10 ds hd32 w3).mono fun e w' h => ⟨_, h.1, rfl, h.2⟩) ?_
  rintro _ w4 a ⟨rfl, B4⟩ hF
  have hB4 := hB3.trans (B4.mono hB3.size)
  have m4 := m3.old B4
  refine s_val hF (x_assign rfl) (by decide) fun a hF => ?_
  refine s_end (hK3 _ _ ?_)
  refine wp_rq (fun W => Below w4.heap.size w4 W) wide_orders (by kernel_rfl) (drawn_below w4) fun K hK => ?_
  refine q_val hF (fun w hw => x_load rfl (m_loadW (by rw [hl32]; exact wide24) (m4.old hw))) (by decide) fun a hF => ?_
  refine q_val hF (fun w hw => x_move rfl) (by decide) fun a hF => ?_
  refine q_call1 (v := .agg (ds.map encB).toArray) hF (enters_of Tryd.func11 (by kernel_rfl) rfl) rfl (by decide) (fun w hw => (rsum11 _ bs _ w (hR.below (hB4.trans (hw.mono hB4.size))) hlen).mono fun e w' h => ⟨by rw [h.1, hds], hw.trans (h.2.mono hw.size)⟩) fun a hF => ?_
  refine q_val hF (fun w hw => x_eqA (b := true) under24 Tryd.underlying5 flat5 guard24 hd32 hd32 (by simp) rfl rfl) (by decide) fun a hF => ?_
  refine q_val hF (fun w hw => x_move rfl) (by decide) fun a hF => ?_
  refine q_grd 13 hF rfl rfl rfl ?_
  refine q_val hF (fun w hw => x_move rfl) (by decide) fun a hF => ?_
  refine q_grd 13 hF rfl rfl rfl ?_
  refine q_val hF (fun w hw => x_load rfl (m_loadW (by rw [hl32]; exact wide24) (m4.old hw))) (by decide) fun a hF => ?_
  refine q_grd 13 hF rfl rfl rfl ?_
  refine q_call1 (v := .string ⟨(hexL ds).toArray⟩) hF (enters_of Tryd.func12 (by kernel_rfl) rfl) rfl (by decide) (fun w hw => (rhex12 ds hd32 w).mono fun e w' h => ⟨h.1, hw.trans (h.2.mono hw.size)⟩) fun a hF => ?_
  refine q_grd 13 hF rfl rfl rfl ?_
  refine q_val hF (fun w hw => x_eqT rfl rfl rfl) (by decide) fun a hF => ?_
  refine q_val hF (fun w hw => x_pick rfl rfl) (by decide) fun a hF => ?_
  refine q_val hF (fun w hw => x_move rfl) (by decide) fun a hF => ?_
  refine q_grd 19 hF rfl rfl rfl ?_
  refine q_val hF (fun w hw => x_move rfl) (by decide) fun a hF => ?_
  refine q_grd 19 hF rfl rfl rfl ?_
  refine q_val hF (fun w hw => x_lenS Tryd.underlying9 rfl) (by decide) fun a hF => ?_
  refine q_grd 19 hF rfl rfl rfl ?_
  refine q_val hF (fun w hw => x_eql (b := true) (decide_eq_true (by rw [hexSize _ hd32]; rfl)) rfl rfl) (by decide) fun a hF => ?_
  refine q_val hF (fun w hw => x_pick rfl rfl) (by decide) fun a hF => ?_
  refine q_val hF (fun w hw => x_move rfl) (by decide) fun a hF => ?_
  refine q_grd 24 hF rfl rfl rfl ?_
  refine q_call0 (v := .bool true) hF (enters_of Tryd.func13 (by kernel_rfl) rfl) (by decide) (fun w hw => (awake13 w (hT.old (hB4.trans (hw.mono hB4.size)))).mono fun e w' h => ⟨h.1, hw.trans (h.2.mono hw.size)⟩) fun a hF => ?_
  refine q_val hF (fun w hw => x_pick rfl rfl) (by decide) fun a hF => ?_
  refine q_val hF (fun w hw => x_assign rfl) (by decide) fun a hF => ?_
  refine q_end fun w hw => hK _ _ ?_
  refine wp_ret (res_slot hF rfl rfl ⟨rfl, hB4.trans (hw.mono hB4.size)⟩)

theorem x_remk {P : Program} {n : Nat} {l : List (Nat × Value)} {w : World} {t t' : TypeId} {x y : Operand} {k : IntKind} {p q : Int} (r : Nat) (h0 : q ≠ 0) (h1 : p.tmod q = (r : Int)) (hx : ov l x = some (.int k p)) (hy : ov l y = some (.int k q)) : Runs P n l w (.binOp .rem t x y t') (.int k (r : Int)) :=
  x_bin hx hy (b_int fun W => by simp [binOp, Op.intDiv, h0, h1])

set_option maxRecDepth 100000 in
set_option maxHeartbeats 800000 in
theorem shaLong_walk (z : Int) (x : UInt8) (w0 : World) (hT : Tab w0) : Calls Tryd.prog 4 #[.int .i64 z, encB x] w0 fun e w' => e = .returned (.bool true) ∧ Below w0.heap.size w0 w' := by
  obtain ⟨i5, hi5, hz5, hs5, hb5⟩ := info5
  obtain ⟨m, hm⟩ : ∃ m : Nat, m = ((z % 18446744073709551616) % 300).toNat := ⟨_, rfl⟩
  have hm300 : m < 300 := by omega
  refine calls_fs 32 [(0, .int .i64 z), (1, encB x)] Tryd.func4 rfl rfl rfl rfl rfl fun a hF => ?_
  refine wp_rs fun K1 hK1 => ?_
  refine s_val hF (x_assign rfl) (by decide) fun a hF => ?_
  refine s_end (hK1 _ _ ?_)
  refine wp_rs fun K2 hK2 => ?_
  refine s_val hF (x_move rfl) (by decide) fun a hF => ?_
  refine s_val hF (x_cvt (k := .u64) (r := z % 18446744073709551616) Tryd.underlying3 Tryd.underlying29 (wrap_u64 z) rfl) (by decide) fun a hF => ?_
  refine s_val hF (x_remk m (by decide) (by rw [Int.tmod_eq_emod_of_nonneg (by omega)]; omega) rfl rfl) (by decide) fun a hF => ?_
  refine s_make m hF (by decide) rfl rfl Tryd.underlying22 hi5 hz5 hs5 rfl (by rw [hb5]; omega) (by omega) rfl rfl fun w1 b a e1 m1 B1 z1 hF => ?_
  refine s_val hF (x_assign rfl) (by decide) fun a hF => ?_
  refine s_end (hK2 _ _ ?_)
  refine wp_seq_k fun K3 hK3 => ?_
  refine wp_rs fun K4 hK4 => ?_
  refine s_val hF (x_move rfl) (by decide) fun a hF => ?_
  refine s_val hF (x_len Tryd.underlying22 rfl) (by decide) fun a hF => ?_
  refine s_val hF (x_move rfl) (by decide) fun a hF => ?_
  refine s_end (hK4 _ _ ?_)
  refine wp_block ?_
  refine wp_up m (fun k a w => ∃ xs : List UInt8, xs.length = k ∧ Blk w b 5 ((pad m 0 xs).map encB) ∧ Below w0.heap.size w0 w ∧ Fs 32 a [(13, .int .i64 (k : Int)), (12, .int .i64 (m : Int)), (5, .slice (some ⟨b, 0, none⟩) m m), (1, encB x)]) ⟨[], rfl, by rw [pad_nil, List.map_replicate]; exact m1, B1, hF.sub _ rfl⟩ ?_
  clear hF m1
  rintro k a w hk ⟨xs, hl, m1, hB, hF⟩ K' hK'
  refine wp_rs fun K5 hK5 => ?_
  refine s_val hF (x_lss (b := decide (k < m)) (by simp) rfl rfl) (by decide) fun a hF => ?_
  refine s_end (hK5 _ _ ?_)
  refine wp_seq_k fun K6 hK6 => ?_
  refine wp_iff hF rfl (fun hc14 => ?_) (fun hc14 => ?_)
  · refine wp_skip (hK6 _ _ ?_)
    refine wp_seq_k fun K7 hK7 => ?_
    refine wp_block ?_
    refine wp_rs fun K8 hK8 => ?_
    refine s_val hF (x_move rfl) (by decide) fun a hF => ?_
    refine s_val hF (x_assign rfl) (by decide) fun a hF => ?_
    refine s_end (hK8 _ _ ?_)
    refine wp_region_lit ?_
    refine s_val hF (x_move rfl) (by decide) fun a hF => ?_
    refine s_val hF (x_move rfl) (by decide) fun a hF => ?_
    refine s_val hF (x_move rfl) (by decide) fun a hF => ?_
    refine s_val hF (x_move rfl) (by decide) fun a hF => ?_
    refine s_val hF (x_cvt (k := .u8) (r := ((UInt8.ofNat k).toNat : Int)) Tryd.underlying3 Tryd.underlying5 (nat8 k) rfl) (by decide) fun a hF => ?_
    refine s_val hF (x_add8 (q := UInt8.ofNat k) rfl rfl) (by decide) fun a hF => ?_
    refine s_val hF (x_ixa rfl rfl (m_ixs k Tryd.underlying22 (size_flat flat5) rfl (by omega))) (by decide) fun a hF => ?_
    refine s_put hF rfl rfl flat5 m1 (by rw [Nat.zero_add, len_padB (by omega)]; omega) rfl fun w2 m2 o2 => ?_
    rw [Nat.zero_add, set_padB _ _ hl (by omega)] at m2
    refine s_end (hK7 _ _ ?_)
    refine wp_region_lit ?_
    refine s_val hF (x_addn (k + 1) (by omega) (by omega) rfl rfl) (by decide) fun a hF => ?_
    refine s_val hF (x_move rfl) (by decide) fun a hF => ?_
    refine s_end (hK' _ _ (by omega) ⟨xs ++ [x + UInt8.ofNat k], by simp [hl], m2, hB.trans (o2.below (by omega)), hF.sub _ rfl⟩)
  · obtain rfl : k = m := by omega
    rw [pad_full k 0 _ hl] at m1
    have hR := RB.blk (ex := b + 1) m1 (by omega)
    rw [hl] at hR
    refine wp_exit (hK3 _ _ ?_)
    refine wp_rs fun K9 hK9 => ?_
    refine s_val hF (x_move rfl) (by decide) fun a hF => ?_
    refine s_call1 (R := fun v w' => v = .agg ((shaL kTab xs).map encB).toArray ∧ Below w.heap.size w w') hF (enters_of Tryd.func9 (by kernel_rfl) rfl) rfl (by decide) ((sum9 _ xs _ w hR (hT.old hB) (by omega)).mono fun e w' h => ⟨_, h.1, rfl, h.2⟩) ?_
    rintro _ w3 a ⟨rfl, B3⟩ hF
    refine s_val hF (x_move rfl) (by decide) fun a hF => ?_
    refine s_call1 (R := fun v w' => v = .agg ((shaL kTab xs).map encB).toArray ∧ Below w3.heap.size w3 w') hF (enters_of Tryd.func11 (by kernel_rfl) rfl) rfl (by decide) ((rsum11 _ xs _ w3 (hR.below B3) (by omega)).mono fun e w' h => ⟨_, h.1, rfl, h.2⟩) ?_
    rintro _ w4 a ⟨rfl, B4⟩ hF
    have hB3 := hB.trans (B3.mono hB.size)
    have hB4 := hB3.trans (B4.mono hB3.size)
    refine s_val hF (x_eqA (b := true) under24 Tryd.underlying5 flat5 guard24 (shaL_length _ _) (shaL_length _ _) (by simp) rfl rfl) (by decide) fun a hF => ?_
    refine s_val hF (x_move rfl) (by decide) fun a hF => ?_
    refine s_grd 29 hF rfl rfl rfl ?_
    refine s_call0 (R := fun v w' => v = .bool true ∧ Below w4.heap.size w4 w') hF (enters_of Tryd.func13 (by kernel_rfl) rfl) (by decide) ((awake13 w4 (hT.old hB4)).mono fun e w' h => ⟨_, h.1, rfl, h.2⟩) ?_
    rintro _ w5 a ⟨rfl, B5⟩ hF
    refine s_val hF (x_pick rfl rfl) (by decide) fun a hF => ?_
    refine s_val hF (x_assign rfl) (by decide) fun a hF => ?_
    refine s_end (hK9 _ _ ?_)
    refine wp_ret (res_slot hF rfl rfl ⟨rfl, hB4.trans (B5.mono hB4.size)⟩)
end Go.Proofs.YtjohaokdfgkdjaaDoor
