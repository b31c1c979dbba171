/- wire.fresh, wire.putNumber, assizeref2.Put. -/
import Derived.Test.YtllpohacomknfaaTakeI
namespace Go.Proofs.Ytllpohacomknfaa
open Go.RowKit
set_option linter.unusedVariables false
set_option linter.unusedSimpArgs false

set_option maxRecDepth 100000 in
set_option maxHeartbeats 1000000 in
theorem fresh38 (bs : List UInt8) (room : Nat) (hb : bs.length + room ≤ 281474976710656) (v : Value) (w : World) (hv : RB w v bs) :
    Calls Try.prog 38 #[v, .int .i64 (room : Int)] w (Gives bs w) := by
  obtain ⟨i0, hi, hz0, hz1, hz2⟩ := info_parts info5
  obtain ⟨a, c, rfl, hc, hn⟩ := hv.form
  have HV := Lib.hid hv
  have HN := Lib.hid hn
  clear hv hn
  go_enter Try.func38, Try.ntmps38
  go_wp2_with (first
    | (refine wpList_make_own _ rfl _ _ 22 rfl w.heap.size 5 i0 (.int .u8 0) 1 Try.underlying22 hi hz0 hz1 .i64 .i64 _ (bs.length + room) rfl rfl (by omega) (by rw [hz2]; omega) (by unfold maxLen; omega) (Nat.le_refl _) ?_; intro w1 hown1 hgrow1)
    | (at_builtin; refine wpList_append_fits_any _ rfl _ _ 22 rfl w.heap.size 5 i0 1 Try.underlying22 hi hz1 w.heap.size 0 (bs.length + room) [] rfl hown1 a bs.length c (bs.map encU) rfl (by simp) (HV.out.src ((Below.refl _ _).grown hgrow1 (Nat.le_refl _) (by simp))).1 (HV.out.src ((Below.refl _ _).grown hgrow1 (Nat.le_refl _) (by simp))).2 (oneCell_encU bs) (by omega) ?_; intro w2 hown2 hgrow2))
  go_ret
  refine ⟨_, rfl, by simpa using hown2, ((Below.refl w.heap.size w).grown hgrow1 (Nat.le_refl _) (by simp)).grown hgrow2 hgrow1.size ?_⟩
  intro k hk
  cases hk
  exact Nat.le_refl _
end Go.Proofs.Ytllpohacomknfaa
