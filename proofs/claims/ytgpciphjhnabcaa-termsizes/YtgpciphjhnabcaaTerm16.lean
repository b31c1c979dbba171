/- The reference's May; whole; Loose. -/
import Derived.Test.YtgpciphjhnabcaaTerm15
namespace Go.Proofs.Ytgpciphjhnabcaa
open Go.RowKit Go.Shelf
set_option linter.unusedVariables false
set_option linter.unusedSimpArgs false

end Go.Proofs.Ytgpciphjhnabcaa
