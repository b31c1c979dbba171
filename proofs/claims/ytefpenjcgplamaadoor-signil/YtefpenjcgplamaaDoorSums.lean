/- Len, New, Sum of a hash, Sum; of a hash that there isn't. -/
import Derived.Test.YtefpenjcgplamaaDoorWrite
import Derived.Test.YtefpenjcgplamaaDoorSymV
namespace Go.Proofs.YtefpenjcgplamaaDoor
open Go.RowKit Go.Shelf
set_option linter.unusedVariables false
set_option linter.unusedSimpArgs false

theorem oneH (ws : List UInt32) (ls : List UInt8) (n : Nat) : ∀ u ∈ Hs ws ls n, u.oneCell' = true := by
  intro u hu
  simp only [Hs, List.mem_append, List.mem_singleton] at hu
  rcases hu with h | h | rfl
  · exact oneW _ u h
  · exact oneB _ u h
  · rfl
theorem write16n (v : Value) (w : World) : Calls Tryd.prog 18 #[.pointer none, v] w fun e w' => e = .returned (.tuple #[]) ∧ w' = w := by
  refine calls_fs 59 [(0, .pointer none), (1, v)] Tryd.func18 rfl rfl rfl rfl rfl fun a hF => ?_
  refine wp_seq_k fun K1 hK1 => ?_
  refine wp_rs fun K2 hK2 => ?_
  refine s_val hF (x_move rfl) (by decide) fun a hF => ?_
  refine s_val hF (x_ptr Tryd.underlying42 rfl rfl) (by decide) fun a hF => ?_
  refine s_end (hK2 _ _ ?_)
  refine wp_if hF rfl ?_

  refine wp_ret (then_ret (res_none hF rfl ⟨rfl, rfl⟩))

theorem built47 (w : World) : (Instr.build 61 #[]).run Tryd.prog w = .ok (.agg (Hs (List.replicate 8 0) (List.replicate 64 0) 0).toArray) w := run_build w 61 #[] _ (by kernel_rfl)
theorem built24 (w : World) : (Instr.build 24 #[]).run Tryd.prog w = .ok (.agg ((List.replicate 32 (0 : UInt8)).map encB).toArray) w := run_build w 24 #[] _ (by kernel_rfl)
theorem HR.zero {w : World} {b : Nat} (h : Blk w b 61 (Hs (List.replicate 8 0) (List.replicate 64 0) 0)) : HR w b [] := ⟨_, _, h, rfl, rfl, fun h => absurd rfl h⟩

/-- A hash to which nothing has come. -/
theorem new15 (w0 : World) : Calls Tryd.prog 17 #[] w0 fun e w' => ∃ b, e = .returned (.pointer (some ⟨b, 0, none⟩)) ∧ b = w0.heap.size ∧ HR w' b [] ∧ Below w0.heap.size w0 w' := by
  refine calls_fs (vs := []) 3 [] Tryd.func17 rfl rfl rfl rfl rfl fun a hF => ?_
  refine wp_rs fun K1 hK1 => ?_
  refine s_val hF (x_assign rfl) (by decide) fun a hF => ?_
  refine s_end (hK1 _ _ ?_)
  refine wp_rs fun K2 hK2 => ?_
  refine s_val hF (x_build (parts := []) (vs := []) rfl (built47 w0)) (by decide) fun a hF => ?_
  refine s_box _ hF (by decide) rfl rfl fun w1 b a e1 m1 B1 z1 hF => ?_
  refine s_val hF (x_assign rfl) (by decide) fun a hF => ?_
  refine s_end (hK2 _ _ ?_)
  refine wp_ret (res_slot hF rfl rfl ⟨b, rfl, e1, HR.zero m1, B1⟩)

set_option maxRecDepth 100000 in
set_option maxHeartbeats 400000 in
/-- The sum of what has come. -/
theorem sum18 (b : Nat) (m : List UInt8) (w0 : World) (hH : HR w0 b m) (hT : Tab w0) (hlen : m.length < 2305843009213693952) :
    Calls Tryd.prog 20 #[.pointer (some ⟨b, 0, none⟩)] w0 fun e w' => e = .returned (.agg ((shaL kTab m).map encB).toArray) ∧ Below w0.heap.size w0 w' := by
  obtain ⟨ws, ls, hm, hws, hls, hrep⟩ := hH
  have hl73 : (Hs ws ls m.length).length = 73 := Hs_length hws hls
  refine calls_fs 19 [(0, .pointer (some ⟨b, 0, none⟩))] Tryd.func20 rfl rfl rfl rfl rfl fun a hF => ?_
  refine wp_rs fun K1 hK1 => ?_
  refine s_alloc hF (by decide) zero24 fun w1 b2 a e2 m2 B1 z1 hF => ?_
  refine s_end (hK1 _ _ ?_)
  refine wp_seq_k fun K2 hK2 => ?_
  refine wp_rs fun K3 hK3 => ?_
  refine s_val hF (x_move rfl) (by decide) fun a hF => ?_
  refine s_val hF (x_ptr Tryd.underlying42 rfl rfl) (by decide) fun a hF => ?_
  refine s_end (hK3 _ _ ?_)
  refine wp_if hF rfl ?_

  refine wp_skip (hK2 _ _ ?_)
  refine wp_rs fun K4 hK4 => ?_
  refine s_val hF (x_move rfl) (by decide) fun a hF => ?_
  refine s_val hF (x_nil rfl) (by decide) fun a hF => ?_
  refine s_val hF (x_load rfl (m_loadW (by rw [hl73]; exact wide47) (hm.old B1))) (by decide) fun a hF => ?_
  refine s_alloc hF (by decide) zero47 fun w2 b3 a e3 m3 B2 z2 hF => ?_
  refine s_putW hF rfl rfl (by rw [hl73]; exact size_wide wide47) m3 (by rw [hl73]; rfl) (oneH _ _ _) fun w3 m3 o3 => ?_
  have hb := hm.lt
  have hmw : Blk w3 b 61 (Hs ws ls m.length) := ((hm.old B1).old B2).only o3 (by omega)
  have hB3 : Below w0.heap.size w0 w3 := (B1.trans (B2.mono (by omega))).trans (o3.below (by omega))
  have m2 := (m2.old B2).only o3 (show b2 ≠ b3 by omega)
  refine s_end (hK4 _ _ ?_)
  refine wp_rs fun K5 hK5 => ?_
  refine s_val hF (x_move rfl) (by decide) fun a hF => ?_
  refine s_val hF (x_nil rfl) (by decide) fun a hF => ?_
  refine s_val hF (x_field rfl fld2) (by decide) fun a hF => ?_
  refine s_val hF (x_load rfl (m_load flat2 (hmw.cell (Hs_n hws hls)))) (by decide) fun a hF => ?_
  refine s_call1 (R := fun v w' => (∃ b4, b4 = w3.heap.size ∧ v = .slice (some ⟨b4, 0, none⟩) (endingL m.length).length (endingL m.length).length ∧ Blk w' b4 5 ((endingL m.length).map encB)) ∧ Below w3.heap.size w3 w') hF (enters_of Tryd.func25 (by kernel_rfl) rfl) rfl (by decide) (ending25 m.length (by omega) w3) ?_
  rintro _ w4 a ⟨⟨b4, e4, rfl, m4⟩, B4⟩ hF
  have m3l := m3.lt
  have h72 := endLen_le m.length
  have hH4 : HR w4 b3 m := ⟨ws, ls, m3.old B4, hws, hls, hrep⟩
  have hT4 : Tab w4 := hT.old (hB3.trans (B4.mono (hB3.size)))
  have h0 := hT.lt
  refine s_call2 (R := fun v w' => HR w' b3 (m ++ endingL m.length) ∧ Kp b3 w4 w') hF (enters_of Tryd.func18 (by kernel_rfl) rfl) rfl rfl (by decide) ((write16 b3 m (endingL m.length) _ w4 hH4 (RB.blk m4 (by omega)) hT4 (by omega) (by rw [endingL_length]; omega)).mono fun e w' h => ⟨_, h.1, h.2⟩) ?_
  rintro v5 w5 a ⟨hH5, K5⟩ hF
  obtain ⟨ws5, ls5, m5, hws5, hls5, hrep5⟩ := hH5
  have hrep5 := hrep5 (by simp [endingL, endW])
  refine s_end (hK5 _ _ ?_)
  refine wp_rs fun K6 hK6 => ?_
  refine s_val hF (x_field rfl fld0) (by decide) fun a hF => ?_
  refine s_val hF (x_load rfl (m_loadP (vs := ws5.map encW) (by rw [List.length_map, hws5]; exact wide44) m5 (Hs_words hws5))) (by decide) fun a hF => ?_
  refine s_call1 (R := fun v w' => v = .agg ((joinL ws5).map encB).toArray ∧ Below w5.heap.size w5 w') hF (enters_of Tryd.func26 (by kernel_rfl) rfl) rfl (by decide) ((joined26 ws5 hws5 w5).mono fun e w' h => ⟨_, h.1, rfl, h.2⟩) ?_
  rintro _ w6 a ⟨rfl, B6⟩ hF
  rw [hrep5.sum] at hF
  have m2 := (K5.blk (m2.old B4) (by omega)).old B6
  have hl32 : ((shaL kTab m).map encB).length = 32 := by rw [List.length_map, shaL_length]
  refine s_putW hF rfl rfl (by rw [hl32]; exact size_wide wide24) m2 (by rw [hl32]; rfl) (oneB _) fun w7 m7 o7 => ?_
  refine s_end (hK6 _ _ ?_)
  have hB4 := hB3.trans (B4.mono hB3.size)
  have hB5 := K5.young hB4 (by omega)
  have hB7 := (hB5.trans (B6.mono hB5.size)).trans (o7.below (by omega))
  refine wp_ret (res_cell hF rfl rfl m7 (by rw [hl32]; exact wide24) ⟨rfl, hB7⟩)
theorem sum18n (w0 : World) : Calls Tryd.prog 20 #[.pointer none] w0 fun e w' => e = .returned (.agg ((List.replicate 32 (0 : UInt8)).map encB).toArray) ∧ Below w0.heap.size w0 w' := by
  refine calls_fs 19 [(0, .pointer none)] Tryd.func20 rfl rfl rfl rfl rfl fun a hF => ?_
  refine wp_rs fun K1 hK1 => ?_
  refine s_alloc hF (by decide) zero24 fun w1 b2 a e2 m2 B1 z1 hF => ?_
  refine s_end (hK1 _ _ ?_)
  refine wp_seq_k fun K2 hK2 => ?_
  refine wp_rs fun K3 hK3 => ?_
  refine s_val hF (x_move rfl) (by decide) fun a hF => ?_
  refine s_val hF (x_ptr Tryd.underlying42 rfl rfl) (by decide) fun a hF => ?_
  refine s_end (hK3 _ _ ?_)
  refine wp_if hF rfl ?_

  refine wp_rs fun K4 hK4 => ?_
  refine s_val hF (x_build (parts := []) (vs := []) rfl (built24 w1)) (by decide) fun a hF => ?_
  refine s_putW hF rfl rfl (size_wide wide24) m2 rfl (oneB _) fun w2 m3 o2 => ?_
  refine s_end (hK4 _ _ ?_)
  refine wp_ret (then_ret (res_cell hF rfl rfl m3 wide24 ⟨rfl, B1.trans (o2.below (by omega))⟩))

end Go.Proofs.YtefpenjcgplamaaDoor
