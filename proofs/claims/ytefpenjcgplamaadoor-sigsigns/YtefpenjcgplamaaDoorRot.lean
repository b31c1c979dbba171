/- math/bits.RotateLeft32, sha.turned; what the types are. -/
import Derived.Test.YtefpenjcgplamaaDoorSymC
import Derived.Test.YtefpenjcgplamaaDoorPure
import Derived.Test.YtefpenjcgplamaaDoorRows
namespace Go.Proofs.YtefpenjcgplamaaDoor
open Go.RowKit Go.Shelf
set_option linter.unusedVariables false
set_option linter.unusedSimpArgs false

theorem wide_orders : Tryd.prog.follows .mixedOrders = true := by kernel_rfl
theorem flat2 : Flat Tryd.prog 2 = true := by kernel_rfl
theorem flat3 : Flat Tryd.prog 3 = true := by kernel_rfl
theorem flat5 : Flat Tryd.prog 5 = true := by kernel_rfl
theorem flat29 : Flat Tryd.prog 47 = true := by kernel_rfl
theorem flat43 : Flat Tryd.prog 57 = true := by kernel_rfl
theorem wide24 : Wide Tryd.prog 24 32 = true := by kernel_rfl
theorem wide44 : Wide Tryd.prog 58 8 = true := by kernel_rfl
theorem wide45 : Wide Tryd.prog 59 64 = true := by kernel_rfl
theorem wide47 : Wide Tryd.prog 61 73 = true := by kernel_rfl
theorem wide49 : Wide Tryd.prog 66 64 = true := by kernel_rfl
theorem wide50 : Wide Tryd.prog 67 64 = true := by kernel_rfl
theorem zero49 : (Tryd.prog.info? 66).bind (·.zero) = some (.agg ((List.replicate 64 (0 : UInt32)).map encW).toArray) := by kernel_rfl
theorem zero50 : (Tryd.prog.info? 67).bind (·.zero) = some (.agg ((List.replicate 64 (0 : UInt64)).map encD).toArray) := by kernel_rfl
theorem zero44 : (Tryd.prog.info? 58).bind (·.zero) = some (.agg ((List.replicate 8 (0 : UInt32)).map encW).toArray) := by kernel_rfl
theorem zero45 : (Tryd.prog.info? 59).bind (·.zero) = some (.agg ((List.replicate 64 (0 : UInt8)).map encB).toArray) := by kernel_rfl
theorem zero24 : (Tryd.prog.info? 24).bind (·.zero) = some (.agg ((List.replicate 32 (0 : UInt8)).map encB).toArray) := by kernel_rfl
theorem zero47 : (Tryd.prog.info? 61).bind (·.zero) = some (.agg ((List.replicate 8 (0 : UInt32)).map encW ++ ((List.replicate 64 (0 : UInt8)).map encB ++ [Value.int .i64 ((0 : Nat) : Int)])).toArray) := by kernel_rfl
theorem and31 : ∀ n : Fin 32, 1 ≤ n.val → IntKind.u64.wrap ((BitVec.ofInt 64 (IntKind.u64.wrap (-(n.val : Int))) &&& BitVec.ofInt 64 31).toNat : Int) = ((32 - n.val : Nat) : Int) := by decide

/-- w turned left by -n bits. -/
theorem rot31 (x : UInt32) (n : Nat) (h1 : 1 ≤ n) (h2 : n < 32) (w : World) :
    Calls Tryd.prog 34 #[encW x, .int .i64 (-(n : Int))] w fun e w' => e = .returned (encW (rotr x n)) ∧ w' = w := by
  refine calls_fs 17 [(0, encW x), (1, .int .i64 (-(n : Int)))] Tryd.func34 rfl rfl rfl rfl rfl fun a hF => ?_
  refine wp_rs fun K hK => ?_
  refine s_val hF (x_assign rfl) (by decide) fun a hF => ?_
  refine s_end (hK _ _ ?_)
  refine wp_rs fun K hK => ?_
  refine s_val hF (x_move rfl) (by decide) fun a hF => ?_
  refine s_val hF (x_cvt (r := IntKind.u64.wrap (-(n : Int))) Tryd.underlying3 Tryd.underlying48 rfl rfl) (by decide) fun a hF => ?_
  refine s_val hF (x_bin (v := .int .u64 ((32 - n : Nat) : Int)) rfl rfl (b_int fun W => by show Result.ok (Value.int .u64 (IntKind.u64.wrap ((BitVec.ofInt 64 (IntKind.u64.wrap (-(n : Int))) &&& BitVec.ofInt 64 31).toNat : Int))) W = _; rw [and31 ⟨n, h2⟩ h1])) (by decide) fun a hF => ?_
  refine s_val hF (x_assign rfl) (by decide) fun a hF => ?_
  refine s_end (hK _ _ ?_)
  refine wp_rs fun K hK => ?_
  refine s_val hF (x_move rfl) (by decide) fun a hF => ?_
  refine s_val hF (x_move rfl) (by decide) fun a hF => ?_
  refine s_val hF (x_shl32 (32 - n) rfl (by omega) rfl rfl) (by decide) fun a hF => ?_
  refine s_val hF (x_move rfl) (by decide) fun a hF => ?_
  refine s_val hF (x_move rfl) (by decide) fun a hF => ?_
  refine s_val hF (x_bin (v := .int .u64 (n : Int)) rfl rfl (b_int fun W => by show Result.ok (Value.int .u64 (IntKind.u64.wrap _)) W = _; rw [wrap_u64, show ((32 : Int) - ((32 - n : Nat) : Int)) % 18446744073709551616 = (n : Int) from by omega])) (by decide) fun a hF => ?_
  refine s_val hF (x_shr32 n rfl h2 rfl rfl) (by decide) fun a hF => ?_
  refine s_val hF (x_or32 rfl rfl) (by decide) fun a hF => ?_
  refine s_val hF (x_assign rfl) (by decide) fun a hF => ?_
  refine s_end (hK _ _ ?_)
  refine wp_ret (res_slot hF rfl rfl ⟨rfl, rfl⟩)

theorem ent31 : Enters Tryd.prog 34 := enters_of Tryd.func34 (by kernel_rfl) rfl
theorem ent30 : Enters Tryd.prog 31 := enters_of Tryd.func31 (by kernel_rfl) rfl
/-- w turned right by n bits. -/
theorem turned30 (x : UInt32) (n : Nat) (h1 : 1 ≤ n) (h2 : n < 32) (w : World) :
    Calls Tryd.prog 31 #[encW x, .int .i64 (n : Int)] w fun e w' => e = .returned (encW (rotr x n)) ∧ w' = w := by
  refine calls_fs 9 [(0, encW x), (1, .int .i64 (n : Int))] Tryd.func31 rfl rfl rfl rfl rfl fun a hF => ?_
  refine wp_rs fun K hK => ?_
  refine s_val hF (x_assign rfl) (by decide) fun a hF => ?_
  refine s_end (hK _ _ ?_)
  refine wp_rs fun K hK => ?_
  refine s_val hF (x_move rfl) (by decide) fun a hF => ?_
  refine s_val hF (x_move rfl) (by decide) fun a hF => ?_
  refine s_val hF (x_un (v := .int .i64 (-(n : Int))) rfl (by show Result.ok (Value.int .i64 (IntKind.i64.wrap (0 - (n : Int)))) w = _; rw [wrap_i64 (by omega) (by omega), Int.zero_sub])) (by decide) fun a hF => ?_
  refine s_same2 hF ent31 rfl rfl (by decide) (rot31 x n h1 h2 w) fun a hF => ?_
  refine s_val hF (x_assign rfl) (by decide) fun a hF => ?_
  refine s_end (hK _ _ ?_)
  refine wp_ret (res_slot hF rfl rfl ⟨rfl, rfl⟩)
end Go.Proofs.YtefpenjcgplamaaDoor
