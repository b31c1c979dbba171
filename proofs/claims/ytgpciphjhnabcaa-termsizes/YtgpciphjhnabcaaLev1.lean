/- Num, Var, sum, hasKids, hasNumber, arity, join, succ. -/
import Derived.Test.YtgpciphjhnabcaaLevB
namespace Go.Proofs.Ytgpciphjhnabcaa
open Go.RowKit Go.Shelf
set_option linter.unusedVariables false
set_option linter.unusedSimpArgs false

def arI (k : Int) : Int := if k = 1 ∨ k = 2 then 0 else if k = 3 then 1 else if k = 4 then 2 else -1

end Go.Proofs.Ytgpciphjhnabcaa
