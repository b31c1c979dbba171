/- whole; Loose. -/
import Derived.Test.YtgpciphjhnabcaaTerm16
namespace Go.Proofs.Ytgpciphjhnabcaa
open Go.RowKit Go.Shelf
set_option linter.unusedVariables false
set_option linter.unusedSimpArgs false

/-- What whole lets pass. -/
def CT.wf (c : CT) : Prop := c.okV 6 ∧ c.size ≤ 400 ∧ c.dep ≤ 64
theorem CT.wf.ok {c : CT} (h : c.wf) : c.ok := ⟨by have := h.2.1; omega, by have := h.2.2; omega⟩
def PT.loose : PT → Int → Int
  | .var n, d => if d ≤ n then min (n - d + 1) 9223372036854775807 else 0
  | .two k p q, d => max (p.loose d) (q.loose (d + if k = 3 ∨ k = 4 then 1 else 0))
  | .lt p q r, d => max (p.loose d) (max (q.loose d) (r.loose (d + 1)))
  | .sort _, _ => 0
  | .cst _ _, _ => 0
  | .odd _, _ => 0
def mostL (ps : List Int) : Int := if ps.length = 0 then 0 else mxl ps
def Glo (c : CT) (d : Int) (ps : List Int) : Int := match c with
  | .var n _ => if d ≤ n then min (n - d + 1) 9223372036854775807 else 0
  | _ => mostL ps
def CT.looseR (c : CT) : Int := if c.ok then c.ess.loose 0 else 0

end Go.Proofs.Ytgpciphjhnabcaa
