/- Write. -/
import Derived.Test.YtefpenjcgplamaaDoorHashA
namespace Go.Proofs.YtefpenjcgplamaaDoor
open Go.RowKit Go.Shelf
set_option linter.unusedVariables false
set_option linter.unusedSimpArgs false

set_option maxRecDepth 100000 in
set_option maxHeartbeats 400000 in
theorem write16 (b : Nat) (m bs : List UInt8) (v : Value) (w0 : World) (hH : HR w0 b m) (hv : RB b w0 v bs) (hT : Tab w0) (hb0 : b ≠ 0) (hlen : m.length + bs.length < 4611686018427387904) :
    Calls Tryd.prog 18 #[.pointer (some ⟨b, 0, none⟩), v] w0 fun e w' => e = .returned (.tuple #[]) ∧ HR w' b (m ++ bs) ∧ Kp b w0 w' := by
  obtain ⟨ws, ls, hm, hws, hls, hrep⟩ := hH
  refine calls_fs 59 [(0, .pointer (some ⟨b, 0, none⟩)), (1, v)] Tryd.func18 rfl rfl rfl rfl rfl fun a hF => ?_
  refine wp_seq_k fun K1 hK1 => ?_
  refine wp_rs fun K2 hK2 => ?_
  refine s_val hF (x_move rfl) (by decide) fun a hF => ?_
  refine s_val hF (x_ptr Tryd.underlying42 rfl rfl) (by decide) fun a hF => ?_
  refine s_end (hK2 _ _ ?_)
  refine wp_if hF rfl ?_

  refine wp_skip (hK1 _ _ ?_)
  refine wp_seq_k fun K3 hK3 => ?_
  have key3 : ∀ a w ws, Blk w b 61 (Hs ws ls m.length) → Rep kTab ws ls m.length m → RB b w v bs → Tab w → Kp b w0 w → Fs 59 a [(0, .pointer (some ⟨b, 0, none⟩)), (1, v)] → K3 a w := by
    clear hrep hm hws hF
    intro a w ws hm hrep hR hTw hKp hF
    refine hK3 _ _ ?_
    refine wp_block ?_
    obtain ⟨ad, c, rfl, _, _⟩ := hR.form
    refine wp_loop_ghost (WrI w0 b m bs) bs.length ⟨[], bs, ad, c, ws, ls, rfl, rfl, hm, by simpa using hrep, hR, hTw, hKp, hF.sub _ rfl⟩ ?_
    clear hF hm hrep hR hTw hKp hv
    rintro r a w ⟨x, y, ad, c, ws, ls, rfl, rfl, hm, hrep, hR, hTw, hKp, hF⟩
    have hws := hrep.ws8
    have hls := hrep.room
    simp only [List.length_append] at hlen
    refine wp_seq_k fun K4 hK4 => ?_
    refine wp_rs fun K5 hK5 => ?_
    refine s_val hF (x_move rfl) (by decide) fun a hF => ?_
    refine s_val hF (x_len Tryd.underlying22 rfl) (by decide) fun a hF => ?_
    refine s_val hF (x_gtr rfl rfl rfl) (by decide) fun a hF => ?_
    refine s_end (hK5 _ _ ?_)
    refine wp_iff hF rfl (fun hc19 => ?_) (fun hc19 => ?_)
    · have hpos : 0 < y.length := by omega
      refine wp_skip (hK4 _ _ ?_)
      refine wp_block ?_
      refine wp_rs fun K6 hK6 => ?_
      refine s_val hF (x_move rfl) (by decide) fun a hF => ?_
      refine s_val hF (x_nil rfl) (by decide) fun a hF => ?_
      refine s_val hF (x_field rfl fld2) (by decide) fun a hF => ?_
      refine s_val hF (x_load rfl (m_load flat2 (hm.cell (Hs_n hws hls)))) (by decide) fun a hF => ?_
      refine s_val hF (x_remn ((m.length + x.length) % 64) (by decide) (by rw [Int.tmod_eq_emod_of_nonneg (by omega)]; omega) rfl rfl) (by decide) fun a hF => ?_
      refine s_val hF (x_assign rfl) (by decide) fun a hF => ?_
      refine s_end (hK6 _ _ ?_)
      refine wp_rs fun K7 hK7 => ?_
      refine s_val hF (x_move rfl) (by decide) fun a hF => ?_
      refine s_val hF (x_nil rfl) (by decide) fun a hF => ?_
      refine s_val hF (x_field rfl fld1) (by decide) fun a hF => ?_
      refine s_val hF (x_move rfl) (by decide) fun a hF => ?_
      refine s_val hF (x_slice (vlo := some (.int .i64 (((m.length + x.length) % 64 : Nat) : Int))) (vhi := none) (vmx := none) rfl rfl rfl rfl (m_sliceA ((m.length + x.length) % 64) Tryd.underlying59 (size_flat flat5) rfl (by omega))) (by decide) fun a hF => ?_
      refine s_val hF (x_move rfl) (by decide) fun a hF => ?_
      refine s_copy hF (by decide) rfl rfl Tryd.underlying22 (size_flat flat5) hm hR (by rw [Hs_length hws hls]; omega) fun w1 a hm1 o1 hF => ?_
      obtain ⟨k, hk⟩ : ∃ k, k = min y.length (64 - (m.length + x.length) % 64) := ⟨_, rfl⟩
      rw [← hk] at hm1 hF
      have hkl : (y.take k).length = k := by rw [List.length_take]; omega
      have hm1 : Blk w1 b 61 (Hs ws (splice ls ((m.length + x.length) % 64) (y.take k)) (m.length + x.length)) := by
        rw [← Hs_copy hws hls _ _ (by rw [hkl]; omega), hkl]; exact hm1
      have hls1 : (splice ls ((m.length + x.length) % 64) (y.take k)).length = 64 := by rw [splice_length _ _ _ (by rw [hkl, hls]; omega), hls]
      have hR1 := hR.only o1
      refine s_val hF (x_assign rfl) (by decide) fun a hF => ?_
      refine s_end (hK7 _ _ ?_)
      refine wp_rs fun K8 hK8 => ?_
      refine s_val hF (x_move rfl) (by decide) fun a hF => ?_
      refine s_val hF (x_nil rfl) (by decide) fun a hF => ?_
      refine s_val hF (x_field rfl fld2) (by decide) fun a hF => ?_
      refine s_val hF (x_load rfl (m_load flat2 (hm1.cell (Hs_n hws hls1)))) (by decide) fun a hF => ?_
      refine s_val hF (x_move rfl) (by decide) fun a hF => ?_
      refine s_val hF (x_addn (m.length + x.length + k) (by omega) (by omega) rfl rfl) (by decide) fun a hF => ?_
      refine s_val hF (x_nil rfl) (by decide) fun a hF => ?_
      refine s_val hF (x_field rfl fld2) (by decide) fun a hF => ?_
      refine s_put hF rfl rfl flat2 hm1 (by rw [Hs_length hws hls1]; decide) rfl fun w2 hm2 o2 => ?_
      rw [Hs_setn hws hls1] at hm2
      have hR2 := hR1.only o2
      have hK2 : Kp b w w2 := (Kp.of_only o1).trans (Kp.of_only o2)
      refine s_end (hK8 _ _ ?_)
      refine wp_rs fun K9 hK9 => ?_
      refine s_val hF (x_move rfl) (by decide) fun a hF => ?_
      refine s_val hF (x_move rfl) (by decide) fun a hF => ?_
      refine s_val hF (x_slice (vlo := some (.int .i64 (k : Int))) (vhi := none) (vmx := none) rfl rfl rfl rfl (m_sliceF k Tryd.underlying22 (size_flat flat5) rfl (by omega))) (by decide) fun a hF => ?_
      refine s_val hF (x_assign rfl) (by decide) fun a hF => ?_
      refine s_end (hK9 _ _ ?_)
      refine wp_rs fun K10 hK10 => ?_
      refine s_val hF (x_move rfl) (by decide) fun a hF => ?_
      refine s_val hF (x_move rfl) (by decide) fun a hF => ?_
      refine s_val hF (x_addn ((m.length + x.length) % 64 + k) (by omega) (by omega) rfl rfl) (by decide) fun a hF => ?_
      refine s_val hF (x_eql rfl rfl rfl) (by decide) fun a hF => ?_
      refine s_end (hK10 _ _ ?_)
      refine wp_iff hF rfl (fun hc46 => ?_) (fun hc46 => ?_)
      · have hrf := hrep.full (y.take k) (by rw [hkl]; omega)
        rw [hkl] at hrf
        have hR3 := hR2.from (k := k) (by omega)
        rw [← List.length_drop] at hR3 hF
        obtain ⟨ls', hls'⟩ : ∃ ls', ls' = splice ls ((m.length + x.length) % 64) (y.take k) := ⟨_, rfl⟩
        rw [← hls'] at hrf hm2 hls1
        have hmd : Blk w2.drew b 61 (Hs ws ls' (m.length + x.length + k)) := hm2
        have hT2 : Tab w2.drew := (hKp.trans hK2).tab hT hb0
        refine h_start (N := 13) (S := fun _ => True) (K := fun a w => ∃ n', n' < y.length ∧ WrI w0 b m (x ++ y) n' a w) wide_orders (by kernel_rfl) (fun _ _ h => h) ?_
        refine h_val 0 47 (op := (Go.Op.move (Go.Operand.tmp 0))) hF trivial (by kernel_rfl) (fun W _ => x_move rfl) (by kernel_rfl) (by decide) fun a hF => ?_
        refine h_val 1 48 (op := (Go.Op.move (Go.Operand.tmp 0))) hF trivial (by kernel_rfl) (fun W _ => x_move rfl) (by kernel_rfl) (by decide) fun a hF => ?_
        refine h_val 2 49 (op := (Go.Op.nilCheck (Go.Operand.tmp 48))) hF trivial (by kernel_rfl) (fun W _ => x_nil rfl) (by kernel_rfl) (by decide) fun a hF => ?_
        refine h_val 3 50 (op := (Go.Op.fieldAddr 61 (Go.Operand.tmp 49) 0)) hF trivial (by kernel_rfl) (fun W _ => x_field rfl fld0) (by kernel_rfl) (by decide) fun a hF => ?_
        refine h_val 5 52 (op := (Go.Op.move (Go.Operand.tmp 0))) hF trivial (by kernel_rfl) (fun W _ => x_move rfl) (by kernel_rfl) (by decide) fun a hF => ?_
        refine h_val 6 53 (op := (Go.Op.nilCheck (Go.Operand.tmp 52))) hF trivial (by kernel_rfl) (fun W _ => x_nil rfl) (by kernel_rfl) (by decide) fun a hF => ?_
        refine h_val 7 54 (op := (Go.Op.fieldAddr 61 (Go.Operand.tmp 53) 1)) hF trivial (by kernel_rfl) (fun W _ => x_field rfl fld1) (by kernel_rfl) (by decide) fun a hF => ?_
        refine h_two 4 8 51 55 (op1 := .load 58 (.tmp 50)) (op2 := .load 59 (.tmp 54)) hF (fun _ => trivial) (by kernel_rfl) (by kernel_rfl) (by kernel_rfl) (by kernel_rfl) (by kernel_rfl) (by kernel_rfl) (x_load rfl (m_loadP (vs := ws.map encW) (by rw [List.length_map, hws]; exact wide44) hmd (Hs_words hws))) (x_load rfl (m_loadP (vs := ls'.map encB) (by rw [List.length_map, hls1]; exact wide45) hmd (Hs_last hws))) (x_load rfl (m_loadP (by rw [List.length_map, hws]; exact wide44) hmd (Hs_words hws))) (x_load rfl (m_loadP (by rw [List.length_map, hls1]; exact wide45) hmd (Hs_last hws))) (by decide) (by decide) rfl fun a hF => ?_
        refine h_call 9 56 [.agg (ws.map encW).toArray, .agg (ls'.map encB).toArray] (R := fun v w' => v = .agg ((mixW kTab ws ls').map encW).toArray ∧ Below w2.drew.heap.size w2.drew w') hF (xs := [.tmp 51, .tmp 55]) (ts := #[58, 59]) (by kernel_rfl) (by kernel_rfl) (by decide) (enters_of Tryd.func24 (by kernel_rfl) rfl) rfl ((mixed24 ws ls' hws hls1 _ hT2).mono fun e w' h => ⟨_, h.1, rfl, h.2⟩) ?_
        rintro _ w3 a ⟨rfl, B3⟩ hF
        refine ⟨trivial, ?_⟩
        refine h_val 10 57 (op := .nilCheck (.tmp 47)) hF trivial (by kernel_rfl) (fun W _ => x_nil rfl) (by kernel_rfl) (by decide) fun a hF => ?_
        refine h_val 11 58 (op := .fieldAddr 61 (.tmp 57) 0) hF trivial (by kernel_rfl) (fun W _ => x_field rfl fld0) (by kernel_rfl) (by decide) fun a hF => ?_
        have hm3 := hmd.old B3
        have hl8 : (mixW kTab ws ls').length = 8 := by rw [mixW_length, hws]
        refine h_sto 12 (t := 58) (x := .tmp 58) (y := .tmp 56) hF (by kernel_rfl) (by kernel_rfl) rfl rfl (m_store hm3 rfl (by rw [List.length_map, hl8]; exact size_wide wide44) (by rw [Hs_length hws hls1, List.length_map, hl8]; decide) (oneW _)) ⟨trivial, ?_⟩
        rw [Hs_setw hws _ hl8]
        have hm4 := blk_setRow hm3 (Hs (mixW kTab ws ls') ls' (m.length + x.length + k))
        have o4 := only_setRow (w := w3) (b := b) (Hs (mixW kTab ws ls') ls' (m.length + x.length + k)).toArray
        refine h_end (by kernel_rfl) ?_
        have hK4 := ((hKp.trans hK2).trans (Kp.of_below (drawn_below w2))).trans ((Kp.of_below B3).trans (Kp.of_only o4))
        exact ⟨(y.drop k).length, by rw [List.length_drop]; omega, x ++ y.take k, y.drop k, _, _, _, _, by simp, rfl, by rw [List.length_append, hkl, ← Nat.add_assoc]; exact hm4, by rw [List.length_append, hkl, ← Nat.add_assoc, ← List.append_assoc]; exact hrf, ((hR3.below (drawn_below w2)).below B3).only o4, hK4.tab hT hb0, hK4, hF.sub _ rfl⟩
      · have hrp := hrep.part (y.take k) (by rw [hkl]; omega)
        rw [hkl] at hrp
        have hR3 := hR2.from (k := k) (by omega)
        rw [← List.length_drop] at hR3 hF
        refine wp_skip (⟨(y.drop k).length, by rw [List.length_drop]; omega, x ++ y.take k, y.drop k, _, _, _, _, by simp, rfl, by rw [List.length_append, hkl, ← Nat.add_assoc]; exact hm2, by rw [List.length_append, hkl, ← Nat.add_assoc, ← List.append_assoc]; exact hrp, hR3, (hKp.trans hK2).tab hT hb0, hKp.trans hK2, hF.sub _ rfl⟩)
    · obtain rfl : y = [] := List.eq_nil_of_length_eq_zero (by omega)
      refine wp_exit ?_
      show bodyPost Tryd.prog Tryd.f18 (fun e w' => e = .returned (.tuple #[]) ∧ HR w' b (m ++ (x ++ [])) ∧ Kp b w0 w') .normal a w
      refine post_normal (res_none hF rfl ⟨rfl, ⟨ws, ls, by simpa using hm, hws, hls, fun _ => by simpa using hrep⟩, hKp⟩)
  refine wp_rs fun K11 hK11 => ?_
  refine s_val hF (x_move rfl) (by decide) fun a hF => ?_
  refine s_val hF (x_nil rfl) (by decide) fun a hF => ?_
  refine s_val hF (x_field rfl fld2) (by decide) fun a hF => ?_
  refine s_val hF (x_load rfl (m_load flat2 (hm.cell (Hs_n hws hls)))) (by decide) fun a hF => ?_
  refine s_val hF (x_eql rfl rfl rfl) (by decide) fun a hF => ?_
  refine s_end (hK11 _ _ ?_)
  refine wp_iff hF rfl (fun hc12 => ?_) (fun hc12 => ?_)
  · obtain rfl : m = [] := List.eq_nil_of_length_eq_zero (by omega)
    refine wp_region_lit ?_
    refine s_val hF (x_move rfl) (by decide) fun a hF => ?_
    refine s_call0 (R := fun v w' => v = .agg (ivL.map encW).toArray ∧ Below w0.heap.size w0 w') hF (enters_of Tryd.func23 (by kernel_rfl) rfl) (by decide) ((start23 w0).mono fun e w' h => ⟨_, h.1, rfl, h.2⟩) ?_
    rintro _ w1 a ⟨rfl, B1⟩ hF
    have hm1 := hm.old B1
    refine s_val hF (x_nil rfl) (by decide) fun a hF => ?_
    refine s_val hF (x_field rfl fld0) (by decide) fun a hF => ?_
    refine s_putP hF rfl rfl (size_wide wide44) hm1 (by rw [Hs_length hws hls]; decide) (oneW _) fun w2 hm2 o2 => ?_
    rw [Hs_setw hws ivL rfl] at hm2
    refine s_end ?_
    exact key3 _ w2 ivL hm2 (Rep.start kTab ls hls) ((hv.below B1).only o2) ((Kp.of_only o2).tab (hT.old B1) hb0) ((Kp.of_below B1).trans (Kp.of_only o2)) (hF.sub _ rfl)
  · refine wp_skip ?_
    exact key3 _ w0 ws hm (hrep (by rintro rfl; simp at hc12)) hv hT (Kp.refl _ _) (hF.sub _ rfl)
end Go.Proofs.YtefpenjcgplamaaDoor
