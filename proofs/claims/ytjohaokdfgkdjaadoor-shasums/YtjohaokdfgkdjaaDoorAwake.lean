/- awake. -/
import Derived.Test.YtjohaokdfgkdjaaDoorOwn
import Derived.Test.YtjohaokdfgkdjaaDoorHex
import Derived.Test.YtjohaokdfgkdjaaDoorAbc
namespace Go.Proofs.YtjohaokdfgkdjaaDoor
open Go.RowKit Go.Shelf
set_option linter.unusedVariables false
set_option linter.unusedSimpArgs false

theorem abc16 : (⟨(hexL (shaL kTab [97, 98, 99])).toArray⟩ : ByteArray).extract 0 16 = ⟨#[98, 97, 55, 56, 49, 54, 98, 102, 56, 102, 48, 49, 99, 102, 101, 97]⟩ := by rw [ext_take, abc_hex]
theorem abc4 : (⟨(hexL (shaL kTab [97, 98, 99])).toArray⟩ : ByteArray).extract 0 4 = ⟨#[98, 97, 55, 56]⟩ := by
  rw [ext_take]
  have := congrArg (List.take 4) abc_hex
  rw [List.take_take] at this
  rw [show (4 : Nat) = min 4 16 from rfl, this]
  rfl
theorem hexSize (ds : List UInt8) (h : ds.length = 32) : (⟨(hexL ds).toArray⟩ : ByteArray).size = 64 := by
  show (hexL ds).toArray.size = 64
  simp [hexL_length, h]
theorem zero5 : ((Tryd.prog.info? 5).bind (·.zero)).isSome = true := by kernel_rfl

set_option maxRecDepth 100000 in
theorem awake13 (w0 : World) (hT : Tab w0) : Calls Tryd.prog 13 #[] w0 fun e w' => e = .returned (.bool true) ∧ Below w0.heap.size w0 w' := by
  refine calls_fs (vs := []) 7 [] Tryd.func13 rfl rfl rfl rfl rfl fun a hF => ?_
  refine wp_rs fun K1 hK1 => ?_
  refine s_val hF (x_assign rfl) (by decide) fun a hF => ?_
  refine s_end (hK1 _ _ ?_)
  refine wp_rs fun K2 hK2 => ?_
  refine s_lit [97, 98, 99] hF (by decide) rfl Tryd.underlying22 (size_flat flat5) zero5 rfl (by decide) (by decide) fun w1 b1 a e1 m1 B1 z1 hF => ?_
  refine s_mark (bs := [97, 98, 99]) (b1 + 1) hF (by decide) rfl m1 (by omega) fun w2 a hR o2 hF => ?_
  have hB2 : Below w0.heap.size w0 w2 := B1.trans (o2.below (by omega))
  refine s_call1 (R := fun v w' => v = .agg ((shaL kTab [97, 98, 99]).map encB).toArray ∧ Below w2.heap.size w2 w') hF (enters_of Tryd.func9 (by kernel_rfl) rfl) rfl (by decide) ((sum9 (b1 + 1) [97, 98, 99] _ w2 hR (hT.old hB2) (by decide)).mono fun e w' h => ⟨_, h.1, rfl, h.2⟩) ?_
  rintro _ w3 a ⟨rfl, B3⟩ hF
  refine s_call1 (R := fun v w' => v = .string ⟨(hexL (shaL kTab [97, 98, 99])).toArray⟩ ∧ Below w3.heap.size w3 w') hF (enters_of Tryd.func10 (by kernel_rfl) rfl) rfl (by decide) ((hex10 (shaL kTab [97, 98, 99]) (shaL_length _ _) w3).mono fun e w' h => ⟨_, h.1, rfl, h.2⟩) ?_
  rintro _ w4 a ⟨rfl, B4⟩ hF
  refine s_val hF (x_slice (vlo := none) (vhi := some (.int .i64 16)) (vmx := none) rfl rfl rfl rfl (m_sliceS 16 Tryd.underlying9 rfl (by rw [hexSize _ (shaL_length _ _)]; decide))) (by decide) fun a hF => ?_
  refine s_val hF (x_eqT abc16 rfl rfl) (by decide) fun a hF => ?_
  refine s_val hF (x_assign rfl) (by decide) fun a hF => ?_
  refine s_end (hK2 _ _ ?_)
  have hB3 := hB2.trans (B3.mono hB2.size)
  refine wp_ret (res_slot hF rfl rfl ⟨rfl, hB3.trans (B4.mono hB3.size)⟩)
end Go.Proofs.YtjohaokdfgkdjaaDoor
