/- The sum that every program must know. -/
import Derived.Test.YtjohaokdfgkdjaaDoorMixed
import Derived.Test.YtjohaokdfgkdjaaDoorPure3
namespace Go.Proofs.YtjohaokdfgkdjaaDoor
theorem abc_hex : (hexL (shaL kTab [97, 98, 99])).take 16 = [98, 97, 55, 56, 49, 54, 98, 102, 56, 102, 48, 49, 99, 102, 101, 97] := by decide +kernel
end Go.Proofs.YtjohaokdfgkdjaaDoor
