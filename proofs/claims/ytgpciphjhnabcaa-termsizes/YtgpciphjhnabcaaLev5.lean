/- raiseVar, raise, slices.Max, slices.Equal, SameInts, settle. -/
import Derived.Test.YtgpciphjhnabcaaLevC
namespace Go.Proofs.Ytgpciphjhnabcaa
open Go.RowKit Go.Shelf
set_option linter.unusedVariables false
set_option linter.unusedSimpArgs false

set_option maxRecDepth 100000 in
set_option maxHeartbeats 1600000 in
theorem max63 (ks : List Int) (v : Value) (w0 : World) (hn : 0 < ks.length) (hl : ks.length ≤ 9223372036854775807) (hLo : Lo ks) (hV : Rd w0 v 1 ks.length (ints ks)) : Calls Try.prog 113 #[v] w0 fun e w' => e = .returned (.int .i64 (mxl ks)) ∧ w' = w0 := by
  obtain ⟨b, off, cv, hve, hrow0⟩ := rd_rowI hV (i := 0) hn
  subst hve
  have hBr := Below.refl w0.heap.size w0
  have h0 := hLo.gt 0
  refine calls_fs 25 [(0, .slice (some ⟨b, off, none⟩) ks.length cv)] Try.func113 rfl rfl rfl rfl rfl fun a hF => ?_
  refine wp_rs fun K1 hK1 => ?_
  refine s_val hF (x_assign rfl) (by decide) fun a hF => ?_
  refine s_end (hK1 _ _ ?_)
  refine wp_seq_k fun K2 hK2 => ?_
  refine wp_rs fun K3 hK3 => ?_
  refine s_val hF (x_move rfl) (by decide) fun a hF => ?_
  refine s_val hF (x_len Try.underlying83 rfl) (by decide) fun a hF => ?_
  refine s_val hF (x_lss (b := false) (decide_eq_false (by omega)) rfl rfl) (by decide) fun a hF => ?_
  refine s_end (hK3 _ _ ?_)
  refine wp_if hF rfl ?_
  refine wp_skip (hK2 _ _ ?_)
  refine wp_rs fun K4 hK4 => ?_
  refine s_val hF (x_move rfl) (by decide) fun a hF => ?_
  refine s_val hF (x_ixa rfl rfl (m_ixs 0 Try.underlying83 el29.size rfl (by omega))) (by decide) fun a hF => ?_
  refine s_val hF (x_load rfl (m_load flat3 (hrow0 _ hBr))) (by decide) fun a hF => ?_
  refine s_val hF (x_assign rfl) (by decide) fun a hF => ?_
  refine s_end (hK4 _ _ ?_)
  refine wp_seq_k fun K5 hK5 => ?_
  refine wp_rs fun K6 hK6 => ?_
  refine s_val hF (x_assign rfl) (by decide) fun a hF => ?_
  refine s_end (hK6 _ _ ?_)
  refine wp_block ?_
  refine wp_up (ks.length - 1) (fun j a w => w = w0 ∧ Fs 25 a [(3, .int .i64 ((ks.take (j + 1)).foldl max (-1))), (4, .int .i64 ((j + 1 : Nat) : Int)), (0, .slice (some ⟨b, off, none⟩) ks.length cv)]) ⟨rfl, ?_⟩ ?_
  · have e1 : (ks.take 1).foldl max (-1) = gt ks 0 := by rw [List.take_one, List.head?_eq_getElem?, List.getElem?_eq_getElem hn, gt_lt hn]; simp only [Option.toList_some, List.foldl_cons, List.foldl_nil]; rw [gt_lt hn] at h0; omega
    refine hF.sub _ ?_
    show [_, _, _] = [_, _, _]
    rw [show (0 + 1 : Nat) = 1 from rfl, e1]
    rfl
  clear hF
  rintro j a w hj ⟨rfl, hF⟩ K' hK'
  refine wp_seq_k fun K7 hK7 => ?_
  refine wp_rs fun K8 hK8 => ?_
  refine s_val hF (x_move rfl) (by decide) fun a hF => ?_
  refine s_val hF (x_move rfl) (by decide) fun a hF => ?_
  refine s_val hF (x_len Try.underlying83 rfl) (by decide) fun a hF => ?_
  refine s_val hF (x_lss (b := decide (j + 1 < ks.length)) (decide_eq_decide.2 (by omega)) rfl rfl) (by decide) fun a hF => ?_
  refine s_end (hK8 _ _ ?_)
  refine wp_iff hF rfl (fun hc15 => ?_) (fun hc15 => ?_)
  · obtain ⟨b2, off2, cv2, hve, hrow⟩ := rd_rowI hV (i := j + 1) (by omega)
    cases hve
    refine wp_skip (hK7 _ _ ?_)
    refine wp_seq_k fun K9 hK9 => ?_
    refine wp_block ?_
    refine wp_region_lit ?_
    refine s_val hF (x_move rfl) (by decide) fun a hF => ?_
    refine s_val hF (x_move rfl) (by decide) fun a hF => ?_
    refine s_val hF (x_move rfl) (by decide) fun a hF => ?_
    refine s_val hF (x_ixa rfl rfl (m_ixs (j + 1) Try.underlying83 el29.size rfl (by omega))) (by decide) fun a hF => ?_
    refine s_val hF (x_load rfl (m_load flat3 (hrow _ hBr))) (by decide) fun a hF => ?_
    refine s_val hF (x_imax rfl rfl) (by decide) fun a hF => ?_
    refine s_val hF (x_assign rfl) (by decide) fun a hF => ?_
    refine s_end (hK9 _ _ ?_)
    refine wp_region_lit ?_
    refine s_val hF (x_move rfl) (by decide) fun a hF => ?_
    refine s_val hF (x_addn (j + 1 + 1) (by omega) (by omega) rfl rfl) (by decide) fun a hF => ?_
    refine s_val hF (x_assign rfl) (by decide) fun a hF => ?_
    have e1 : (ks.take (j + 1 + 1)).foldl max (-1) = max ((ks.take (j + 1)).foldl max (-1)) (gt ks (j + 1)) := by rw [List.take_add_one, List.getElem?_eq_getElem (by omega), gt_lt (by omega), List.foldl_append]; rfl
    refine s_end (hK' _ _ (by omega) ⟨rfl, hF.sub _ (by rw [e1]; rfl)⟩)
  · refine wp_exit (hK5 _ _ ?_)
    refine wp_rs fun K10 hK10 => ?_
    refine s_val hF (x_move rfl) (by decide) fun a hF => ?_
    refine s_val hF (x_assign rfl) (by decide) fun a hF => ?_
    refine s_end (hK10 _ _ ?_)
    refine wp_ret (res_slot hF rfl rfl ⟨by rw [mxl, List.take_of_length_le (by omega)], rfl⟩)

end Go.Proofs.Ytgpciphjhnabcaa
