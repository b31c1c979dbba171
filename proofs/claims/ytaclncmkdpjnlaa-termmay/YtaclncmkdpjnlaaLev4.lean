/- value, Value; the reference's. -/
import Derived.Test.YtaclncmkdpjnlaaLev3
namespace Go.Proofs.Ytaclncmkdpjnlaa
open Go.RowKit Go.Shelf
set_option linter.unusedVariables false
set_option linter.unusedSimpArgs false

def rho (vs : List Int) (i : Nat) : Int := max 0 (min (vs.getD i 0) 1099511627776)
def val : SL → (Nat → Int) → Int
  | .num n, _ => n
  | .var i, ρ => ρ i
  | .succ n a, ρ => cut (n + val a ρ)
  | .mx a b, ρ => max (val a ρ) (val b ρ)
end Go.Proofs.Ytaclncmkdpjnlaa
