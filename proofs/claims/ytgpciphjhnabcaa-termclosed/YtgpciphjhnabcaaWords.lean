/- Words of 32 bits, bytes, numbers of 64 bits, as the walk has them. No program is named here. -/
import Derived.Test.YtgpciphjhnabcaaSymM
import Derived.Laws.BitsAllLaws
namespace Go.Proofs.Ytgpciphjhnabcaa
open Go.RowKit Go.Shelf
set_option linter.unusedVariables false
set_option linter.unusedSimpArgs false

def encW (x : UInt32) : Value := .int .u32 (x.toNat : Int)
def encB (x : UInt8) : Value := .int .u8 (x.toNat : Int)
def encD (x : UInt64) : Value := .int .u64 (x.toNat : Int)

theorem wrap_u64 (z : Int) : IntKind.u64.wrap z = z % 18446744073709551616 := by simp [IntKind.wrap, IntKind.bits, IntKind.signed]

section
variable {P : Program} {n : Nat} {l : List (Nat × Value)} {w : World} {t t' : TypeId} {x y : Operand}

/-- Conversions between kinds of integers. -/
theorem run_conv_int {s d : TypeId} {k : IntKind} {k0 : IntKind} {z : Int} {ds : TypeDesc} (hs : P.underlying s = some ds) (hd : P.underlying d = some (.int k)) (W : World) : (convert s d (.int k0 z)).run P W = .ok (.int k (k.wrap z)) W := by
  simp [convert, run_underlying hs, run_underlying hd, Conv.intToInt]
theorem x_cvt {s d : TypeId} {k k0 : IntKind} {z r : Int} {ds : TypeDesc} (hs : P.underlying s = some ds) (hd : P.underlying d = some (.int k)) (hr : k.wrap z = r) (hx : ov l x = some (.int k0 z)) : Runs P n l w (.convert s d x) (.int k r) :=
  x_conv hx (by rw [run_conv_int hs hd, hr])
end
end Go.Proofs.Ytgpciphjhnabcaa
