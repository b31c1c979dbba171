/- assizeref3.Hex; assizeref3.turn, math/bits.Mul64. -/
import Derived.Test.YtefpenjcgplamaaDoorOwn
import Derived.Test.YtefpenjcgplamaaDoorSymK
namespace Go.Proofs.YtefpenjcgplamaaDoor
open Go.RowKit Go.Shelf
set_option linter.unusedVariables false
set_option linter.unusedSimpArgs false

/-- x turned right by n bits, as the reference has it. -/
theorem turn28 (x : UInt32) (n : Nat) (h1 : 1 ≤ n) (h2 : n < 32) (w : World) : Calls Tryd.prog 33 #[encW x, .int .u64 (n : Int)] w fun e w' => e = .returned (encW (rotr x n)) ∧ w' = w := by
  refine calls_fs 13 [(0, encW x), (1, .int .u64 (n : Int))] Tryd.func33 rfl rfl rfl rfl rfl fun a hF => ?_
  refine wp_rs fun K1 hK1 => ?_
  refine s_val hF (x_assign rfl) (by decide) fun a hF => ?_
  refine s_end (hK1 _ _ ?_)
  refine wp_rs fun K2 hK2 => ?_
  refine s_val hF (x_move rfl) (by decide) fun a hF => ?_
  refine s_val hF (x_move rfl) (by decide) fun a hF => ?_
  refine s_val hF (x_shr32 n rfl h2 rfl rfl) (by decide) fun a hF => ?_
  refine s_val hF (x_move rfl) (by decide) fun a hF => ?_
  refine s_val hF (x_move rfl) (by decide) fun a hF => ?_
  refine s_val hF (x_bin (v := .int .u64 ((32 - n : Nat) : Int)) rfl rfl (b_int fun W => by show Result.ok (Value.int .u64 (IntKind.u64.wrap _)) W = _; rw [wrap_u64, show ((32 : Int) - (n : Int)) % 18446744073709551616 = ((32 - n : Nat) : Int) from by omega])) (by decide) fun a hF => ?_
  refine s_val hF (x_shl32 (32 - n) rfl (by omega) rfl rfl) (by decide) fun a hF => ?_
  refine s_val hF (x_or32 rfl rfl) (by decide) fun a hF => ?_
  refine s_val hF (x_assign rfl) (by decide) fun a hF => ?_
  refine s_end (hK2 _ _ ?_)
  refine wp_ret (res_slot hF rfl rfl ⟨by rw [rotr, UInt32.or_comm], rfl⟩)

/-- The upper half of a product, as math/bits reckons it. -/
def mulHi (x y : UInt64) : UInt64 :=
  let x0 := x &&& 4294967295
  let x1 := x >>> UInt64.ofNat 32
  let y0 := y &&& 4294967295
  let y1 := y >>> UInt64.ofNat 32
  let w0 := x0 * y0
  let t := x1 * y0 + (w0 >>> UInt64.ofNat 32)
  let w1 := (t &&& 4294967295) + x0 * y1
  x1 * y1 + (t >>> UInt64.ofNat 32) + (w1 >>> UInt64.ofNat 32)
theorem mul27 (x y : UInt64) (w : World) : Calls Tryd.prog 32 #[encD x, encD y] w fun e w' => e = .returned (.tuple #[encD (mulHi x y), encD (x * y)]) ∧ w' = w := by
  refine calls_fs 51 [(0, encD x), (1, encD y)] Tryd.func32 rfl rfl rfl rfl rfl fun a hF => ?_
  refine wp_rs fun K1 hK1 => ?_
  refine s_val hF (x_assign rfl) (by decide) fun a hF => ?_
  refine s_val hF (x_assign rfl) (by decide) fun a hF => ?_
  refine s_end (hK1 _ _ ?_)
  refine wp_rs fun K2 hK2 => ?_
  refine s_val hF (x_move rfl) (by decide) fun a hF => ?_
  refine s_val hF (x_and64 (q := 4294967295) rfl rfl) (by decide) fun a hF => ?_
  refine s_val hF (x_assign rfl) (by decide) fun a hF => ?_
  refine s_end (hK2 _ _ ?_)
  refine wp_rs fun K3 hK3 => ?_
  refine s_val hF (x_move rfl) (by decide) fun a hF => ?_
  refine s_val hF (x_shr64 32 rfl (by decide) rfl rfl) (by decide) fun a hF => ?_
  refine s_val hF (x_assign rfl) (by decide) fun a hF => ?_
  refine s_end (hK3 _ _ ?_)
  refine wp_rs fun K4 hK4 => ?_
  refine s_val hF (x_move rfl) (by decide) fun a hF => ?_
  refine s_val hF (x_and64 (q := 4294967295) rfl rfl) (by decide) fun a hF => ?_
  refine s_val hF (x_assign rfl) (by decide) fun a hF => ?_
  refine s_end (hK4 _ _ ?_)
  refine wp_rs fun K5 hK5 => ?_
  refine s_val hF (x_move rfl) (by decide) fun a hF => ?_
  refine s_val hF (x_shr64 32 rfl (by decide) rfl rfl) (by decide) fun a hF => ?_
  refine s_val hF (x_assign rfl) (by decide) fun a hF => ?_
  refine s_end (hK5 _ _ ?_)
  refine wp_rs fun K6 hK6 => ?_
  refine s_val hF (x_move rfl) (by decide) fun a hF => ?_
  refine s_val hF (x_move rfl) (by decide) fun a hF => ?_
  refine s_val hF (x_mul64 rfl rfl) (by decide) fun a hF => ?_
  refine s_val hF (x_assign rfl) (by decide) fun a hF => ?_
  refine s_end (hK6 _ _ ?_)
  refine wp_rs fun K7 hK7 => ?_
  refine s_val hF (x_move rfl) (by decide) fun a hF => ?_
  refine s_val hF (x_move rfl) (by decide) fun a hF => ?_
  refine s_val hF (x_mul64 rfl rfl) (by decide) fun a hF => ?_
  refine s_val hF (x_move rfl) (by decide) fun a hF => ?_
  refine s_val hF (x_shr64 32 rfl (by decide) rfl rfl) (by decide) fun a hF => ?_
  refine s_val hF (x_add64 rfl rfl) (by decide) fun a hF => ?_
  refine s_val hF (x_assign rfl) (by decide) fun a hF => ?_
  refine s_end (hK7 _ _ ?_)
  refine wp_rs fun K8 hK8 => ?_
  refine s_val hF (x_move rfl) (by decide) fun a hF => ?_
  refine s_val hF (x_and64 (q := 4294967295) rfl rfl) (by decide) fun a hF => ?_
  refine s_val hF (x_assign rfl) (by decide) fun a hF => ?_
  refine s_end (hK8 _ _ ?_)
  refine wp_rs fun K9 hK9 => ?_
  refine s_val hF (x_move rfl) (by decide) fun a hF => ?_
  refine s_val hF (x_shr64 32 rfl (by decide) rfl rfl) (by decide) fun a hF => ?_
  refine s_val hF (x_assign rfl) (by decide) fun a hF => ?_
  refine s_end (hK9 _ _ ?_)
  refine wp_rs fun K10 hK10 => ?_
  refine s_val hF (x_move rfl) (by decide) fun a hF => ?_
  refine s_val hF (x_move rfl) (by decide) fun a hF => ?_
  refine s_val hF (x_move rfl) (by decide) fun a hF => ?_
  refine s_val hF (x_mul64 rfl rfl) (by decide) fun a hF => ?_
  refine s_val hF (x_add64 rfl rfl) (by decide) fun a hF => ?_
  refine s_val hF (x_assign rfl) (by decide) fun a hF => ?_
  refine s_end (hK10 _ _ ?_)
  refine wp_rs fun K11 hK11 => ?_
  refine s_val hF (x_move rfl) (by decide) fun a hF => ?_
  refine s_val hF (x_move rfl) (by decide) fun a hF => ?_
  refine s_val hF (x_mul64 rfl rfl) (by decide) fun a hF => ?_
  refine s_val hF (x_move rfl) (by decide) fun a hF => ?_
  refine s_val hF (x_add64 rfl rfl) (by decide) fun a hF => ?_
  refine s_val hF (x_move rfl) (by decide) fun a hF => ?_
  refine s_val hF (x_shr64 32 rfl (by decide) rfl rfl) (by decide) fun a hF => ?_
  refine s_val hF (x_add64 rfl rfl) (by decide) fun a hF => ?_
  refine s_val hF (x_assign rfl) (by decide) fun a hF => ?_
  refine s_end (hK11 _ _ ?_)
  refine wp_rs fun K12 hK12 => ?_
  refine s_val hF (x_move rfl) (by decide) fun a hF => ?_
  refine s_val hF (x_move rfl) (by decide) fun a hF => ?_
  refine s_val hF (x_mul64 rfl rfl) (by decide) fun a hF => ?_
  refine s_val hF (x_assign rfl) (by decide) fun a hF => ?_
  refine s_end (hK12 _ _ ?_)
  refine wp_ret (res_two hF rfl rfl rfl ⟨rfl, rfl⟩)
end Go.Proofs.YtefpenjcgplamaaDoor
