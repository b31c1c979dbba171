/- A region that draws its order and makes memory in its midst: what only reads is taken first. No program is named here. -/
import Derived.Test.YtaclncmkdpjnlaaSymC
import Derived.Deep.RegionHeld
namespace Go.Proofs.Ytaclncmkdpjnlaa
open Go.RowKit Go.Shelf
set_option linter.unusedVariables false
set_option linter.unusedSimpArgs false

/-- Which have come up, the newest first. -/
def lst (N : Nat) : List Nat → Array Bool
  | [] => Array.replicate N false
  | i :: d => (lst N d).setIfInBounds i true
def okTake (ops : Array Oper) (listed : Array Bool) (i : Nat) : Bool := Region.noSelect ops && Region.free .any ops listed i && (Region.ready .any ops listed).contains i
def QN (K : Act → World → Prop) : Exit → Act → World → Prop
  | .normal, a, w => K a w
  | _, _, _ => False
/-- An operation without a guard: its slot and kind. -/
def look (ops : Array Oper) (i : Nat) : Option (Option Tmp × Op) := (ops[i]?).bind fun o => match o.guard with | none => some (o.dst, o.op) | some _ => none
section
variable {P : Program} {ops : Array Oper} {K : Act → World → Prop} {S : World → Prop} {N n : Nat} {done : List Nat} {fuel : Nat} {a : Act} {w : World} {l : List (Nat × Value)}

theorem h_start {id : Nat} {Q : Exit → Act → World → Prop} (hm : P.follows .mixedOrders = true) (hN : ops.size = N) (hK : ∀ a w, K a w → Q .normal a w)
    (h : wpAnyH P .any ops (QN K) S N (lst N []) a w.drew) : (Code.region id ops true).wp P Q a w := by
  subst hN
  refine Code.wp_mono (fun e a w h => ?_) (wp_region_held hm h)
  cases e <;> first | exact hK _ _ h | exact (h : False).elim

end
end Go.Proofs.Ytaclncmkdpjnlaa
