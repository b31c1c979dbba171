/- raiseVar, raise, slices.Max, slices.Equal, SameInts, settle. -/
import Derived.Test.YtaclncmkdpjnlaaLevC
namespace Go.Proofs.Ytaclncmkdpjnlaa
open Go.RowKit Go.Shelf
set_option linter.unusedVariables false
set_option linter.unusedSimpArgs false

end Go.Proofs.Ytaclncmkdpjnlaa
