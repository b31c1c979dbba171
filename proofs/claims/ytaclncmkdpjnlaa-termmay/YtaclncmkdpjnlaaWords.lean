/- Words of 32 bits, bytes, numbers of 64 bits, as the walk has them. No program is named here. -/
import Derived.Test.YtaclncmkdpjnlaaSymM
import Derived.Laws.BitsAllLaws
namespace Go.Proofs.Ytaclncmkdpjnlaa
open Go.RowKit Go.Shelf
set_option linter.unusedVariables false
set_option linter.unusedSimpArgs false

def encW (x : UInt32) : Value := .int .u32 (x.toNat : Int)
def encB (x : UInt8) : Value := .int .u8 (x.toNat : Int)
def encD (x : UInt64) : Value := .int .u64 (x.toNat : Int)

section
variable {P : Program} {n : Nat} {l : List (Nat × Value)} {w : World} {t t' : TypeId} {x y : Operand}

end
end Go.Proofs.Ytaclncmkdpjnlaa
