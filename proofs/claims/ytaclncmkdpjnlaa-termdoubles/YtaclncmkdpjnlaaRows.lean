/-
  NARROWER THAN 'FOR EVERY INPUT', by the rows' own cells (each row's printed sentence says how): TermMakes: loops · TermMay: loops · TermInst: loops · TermBack: loops · TermPuts: loops · TermSpines: loops.
  DERIVED. THE GIVEN ROWS OF THIS SEAT. 7 by the template 'for every input the law returns true; each argument reads behind the call as it read before'; 0 by the template 'total and deterministic' (their statements: YtaclncmkdpjnlaaTotals.lean).
  GIVEN WITH THE SEED: the statements are not yours to turn. If you find one false, say at which input.
  Laid BY PROGRAM, IN A SANDBOX (cutbox-rows.mjs): the forced cells as the released guide's own fill.sh prints them over the translation c74ba3751f1eb4f6… (all of the seat's roots in one cut). By AI agents, Wed Nov 11 2026. No macro, syntax, notation, axiom, sorry.
-/
import Derived.Test.YtaclncmkdpjnlaaChecked
import GoSem.Claim
import GoSem.ClaimJoined
import GoSem.ClaimMapViews
import Derived.JoinedTies
import Derived.KernelRfl
namespace Go.Proofs.Ytaclncmkdpjnlaa
/- THE CELL 'sum', in the pinned program and in every row, IS THE sha256 OF THE DUMP (.gsa) THAT YtaclncmkdpjnlaaProg.lean LOADS. Nothing in Lean hashes anything: it is a label: what it is worth is what the hold of that sum in a sandbox is worth. -/
noncomputable def Try.pinned : Pinned := { name := "ytaclncmkdpjnlaa", sum := "c74ba3751f1eb4f60f05885fd54fcc347cfd3cdd65f3acd45ce7e5709ff76356", checked := Try.checked }
namespace Rows
def none {H : Type} : Left H := { results := [], args := [] }

/-- 'assizelaw7.TermMakes': WHATEVER THE INPUT: true; the input reads as it did. -/
def termMakesSpec : ChangeSpec := { name := "termMakes", fn := fun _ => fun
  | [d1, d2, d3, d4, d5, d6, d7, d8] => { results := [.lit (.bool true)], args := [d1, d2, d3, d4, d5, d6, d7, d8] }
  | _ => none }
def termMakesRow : OpenClaim := { program := "ytaclncmkdpjnlaa", sum := "c74ba3751f1eb4f60f05885fd54fcc347cfd3cdd65f3acd45ce7e5709ff76356", func := "assize/assizelaw7.TermMakes", spec := "termMakes", unfollowed := true, recurses := true, loops := true, apart := false }
def TermMakesSaid : Prop := termMakesRow.holds Try.pinned (OpenSpec.ofChange termMakesSpec)

/-- ITS FALSE NEIGHBOUR: 'it returns false'. Refute it at one input. -/
def termMakesWrong : ChangeSpec := { name := "termMakes", fn := fun _ => fun
  | [d1, d2, d3, d4, d5, d6, d7, d8] => { results := [.lit (.bool false)], args := [d1, d2, d3, d4, d5, d6, d7, d8] }
  | _ => none }
def TermMakesWrongFalsely : Prop := termMakesRow.holds Try.pinned (OpenSpec.ofChange termMakesWrong)

/-- 'assizelaw7.TermMay': WHATEVER THE INPUT: true; the input reads as it did. -/
def termMaySpec : ChangeSpec := { name := "termMay", fn := fun _ => fun
  | [d1, d2, d3] => { results := [.lit (.bool true)], args := [d1, d2, d3] }
  | _ => none }
def termMayRow : OpenClaim := { program := "ytaclncmkdpjnlaa", sum := "c74ba3751f1eb4f60f05885fd54fcc347cfd3cdd65f3acd45ce7e5709ff76356", func := "assize/assizelaw7.TermMay", spec := "termMay", unfollowed := true, recurses := true, loops := true, apart := false }
def TermMaySaid : Prop := termMayRow.holds Try.pinned (OpenSpec.ofChange termMaySpec)

/-- ITS FALSE NEIGHBOUR: 'it returns false'. Refute it at one input. -/
def termMayWrong : ChangeSpec := { name := "termMay", fn := fun _ => fun
  | [d1, d2, d3] => { results := [.lit (.bool false)], args := [d1, d2, d3] }
  | _ => none }
def TermMayWrongFalsely : Prop := termMayRow.holds Try.pinned (OpenSpec.ofChange termMayWrong)

/-- 'assizelaw7.TermInst': WHATEVER THE INPUT: true; the input reads as it did. -/
def termInstSpec : ChangeSpec := { name := "termInst", fn := fun _ => fun
  | [d1, d2, d3] => { results := [.lit (.bool true)], args := [d1, d2, d3] }
  | _ => none }
def termInstRow : OpenClaim := { program := "ytaclncmkdpjnlaa", sum := "c74ba3751f1eb4f60f05885fd54fcc347cfd3cdd65f3acd45ce7e5709ff76356", func := "assize/assizelaw7.TermInst", spec := "termInst", unfollowed := true, recurses := true, loops := true, apart := false }
def TermInstSaid : Prop := termInstRow.holds Try.pinned (OpenSpec.ofChange termInstSpec)

/-- ITS FALSE NEIGHBOUR: 'it returns false'. Refute it at one input. -/
def termInstWrong : ChangeSpec := { name := "termInst", fn := fun _ => fun
  | [d1, d2, d3] => { results := [.lit (.bool false)], args := [d1, d2, d3] }
  | _ => none }
def TermInstWrongFalsely : Prop := termInstRow.holds Try.pinned (OpenSpec.ofChange termInstWrong)

/-- 'assizelaw7.TermDoubles': WHATEVER THE INPUT: true; the input reads as it did. -/
def termDoublesSpec : ChangeSpec := { name := "termDoubles", fn := fun _ => fun
  | [d1, d2] => { results := [.lit (.bool true)], args := [d1, d2] }
  | _ => none }
def termDoublesRow : OpenClaim := { program := "ytaclncmkdpjnlaa", sum := "c74ba3751f1eb4f60f05885fd54fcc347cfd3cdd65f3acd45ce7e5709ff76356", func := "assize/assizelaw7.TermDoubles", spec := "termDoubles", unfollowed := true, recurses := true, apart := false }
def TermDoublesSaid : Prop := termDoublesRow.holds Try.pinned (OpenSpec.ofChange termDoublesSpec)

/-- ITS FALSE NEIGHBOUR: 'it returns false'. Refute it at one input. -/
def termDoublesWrong : ChangeSpec := { name := "termDoubles", fn := fun _ => fun
  | [d1, d2] => { results := [.lit (.bool false)], args := [d1, d2] }
  | _ => none }
def TermDoublesWrongFalsely : Prop := termDoublesRow.holds Try.pinned (OpenSpec.ofChange termDoublesWrong)

/-- 'assizelaw7.TermBack': WHATEVER THE INPUT: true; the input reads as it did. -/
def termBackSpec : ChangeSpec := { name := "termBack", fn := fun _ => fun
  | [d1, d2, d3, d4, d5] => { results := [.lit (.bool true)], args := [d1, d2, d3, d4, d5] }
  | _ => none }
def termBackRow : OpenClaim := { program := "ytaclncmkdpjnlaa", sum := "c74ba3751f1eb4f60f05885fd54fcc347cfd3cdd65f3acd45ce7e5709ff76356", func := "assize/assizelaw7.TermBack", spec := "termBack", unfollowed := true, recurses := true, loops := true, apart := false }
def TermBackSaid : Prop := termBackRow.holds Try.pinned (OpenSpec.ofChange termBackSpec)

/-- ITS FALSE NEIGHBOUR: 'it returns false'. Refute it at one input. -/
def termBackWrong : ChangeSpec := { name := "termBack", fn := fun _ => fun
  | [d1, d2, d3, d4, d5] => { results := [.lit (.bool false)], args := [d1, d2, d3, d4, d5] }
  | _ => none }
def TermBackWrongFalsely : Prop := termBackRow.holds Try.pinned (OpenSpec.ofChange termBackWrong)

/-- 'assizelaw7.TermPuts': WHATEVER THE INPUT: true; the input reads as it did. -/
def termPutsSpec : ChangeSpec := { name := "termPuts", fn := fun _ => fun
  | [d1, d2, d3] => { results := [.lit (.bool true)], args := [d1, d2, d3] }
  | _ => none }
def termPutsRow : OpenClaim := { program := "ytaclncmkdpjnlaa", sum := "c74ba3751f1eb4f60f05885fd54fcc347cfd3cdd65f3acd45ce7e5709ff76356", func := "assize/assizelaw7.TermPuts", spec := "termPuts", unfollowed := true, recurses := true, loops := true, apart := false }
def TermPutsSaid : Prop := termPutsRow.holds Try.pinned (OpenSpec.ofChange termPutsSpec)

/-- ITS FALSE NEIGHBOUR: 'it returns false'. Refute it at one input. -/
def termPutsWrong : ChangeSpec := { name := "termPuts", fn := fun _ => fun
  | [d1, d2, d3] => { results := [.lit (.bool false)], args := [d1, d2, d3] }
  | _ => none }
def TermPutsWrongFalsely : Prop := termPutsRow.holds Try.pinned (OpenSpec.ofChange termPutsWrong)

/-- 'assizelaw7.TermSpines': WHATEVER THE INPUT: true; the input reads as it did. -/
def termSpinesSpec : ChangeSpec := { name := "termSpines", fn := fun _ => fun
  | [d1, d2, d3] => { results := [.lit (.bool true)], args := [d1, d2, d3] }
  | _ => none }
def termSpinesRow : OpenClaim := { program := "ytaclncmkdpjnlaa", sum := "c74ba3751f1eb4f60f05885fd54fcc347cfd3cdd65f3acd45ce7e5709ff76356", func := "assize/assizelaw7.TermSpines", spec := "termSpines", unfollowed := true, recurses := true, loops := true, apart := false }
def TermSpinesSaid : Prop := termSpinesRow.holds Try.pinned (OpenSpec.ofChange termSpinesSpec)

/-- ITS FALSE NEIGHBOUR: 'it returns false'. Refute it at one input. -/
def termSpinesWrong : ChangeSpec := { name := "termSpines", fn := fun _ => fun
  | [d1, d2, d3] => { results := [.lit (.bool false)], args := [d1, d2, d3] }
  | _ => none }
def TermSpinesWrongFalsely : Prop := termSpinesRow.holds Try.pinned (OpenSpec.ofChange termSpinesWrong)

/- THE SECOND FORM. 'bulk': how many values and letters a reading holds, each counted each time it is reached (what is shared counts as often as it is met; a slice's spare places count too). A statement '..UptoSaid' is the law's where the arguments, and the package variables that the reading takes, are together of bulk at most 1048576: NARROWER than '..Said'. Prove '..Said' where nothing that the law and all that it calls make is longer than what came in: it says more and counts as full. Else prove '..UptoSaid'. A law counts once. -/
mutual
def uptoBulk {H : Type} : DataW H → Nat
  | .lit (.string bytes) => bytes.length + 1
  | .lit _ => 1
  | .nil => 1
  | .ptr d => uptoBulk d + 1
  | .slice elems spare => uptoBulkAll elems + uptoBulkAll spare + 1
  | .agg parts => uptoBulkAll parts + 1
  | .iface _ d => uptoBulk d + 1
  | .map entries => uptoBulkEntries entries + 1
  | .held _ => 1
def uptoBulkAll {H : Type} : List (DataW H) → Nat
  | [] => 0
  | d :: r => uptoBulk d + uptoBulkAll r
def uptoBulkEntries {H : Type} : List (Lit × DataW H) → Nat
  | [] => 0
  | x :: r => uptoBulkEntry x + uptoBulkEntries r
def uptoBulkEntry {H : Type} : Lit × DataW H → Nat
  | (.string bytes, d) => bytes.length + uptoBulk d + 1
  | (_, d) => uptoBulk d + 1
 end
def uptoSmall : (H : Type) → List (DataW H) → Bool := fun _ ds => decide (uptoBulkAll ds ≤ 1048576)
def OpenSpec.upto (s : _root_.Go.ChangeSpec) : _root_.Go.OpenSpec := { _root_.Go.OpenSpec.ofChange s with cond := some uptoSmall }

/-- 'assizelaw7.TermMakes', WHERE WHAT IT READS IS OF BULK AT MOST 1048576: true; the input reads as it did. -/
def termMakesUptoRow : OpenClaim := { program := "ytaclncmkdpjnlaa", sum := "c74ba3751f1eb4f60f05885fd54fcc347cfd3cdd65f3acd45ce7e5709ff76356", func := "assize/assizelaw7.TermMakes", spec := "termMakes", unfollowed := true, recurses := true, loops := true, apart := false, narrowed := true }
def TermMakesUptoSaid : Prop := termMakesUptoRow.holds Try.pinned (OpenSpec.upto termMakesSpec)

/-- 'assizelaw7.TermMay', WHERE WHAT IT READS IS OF BULK AT MOST 1048576: true; the input reads as it did. -/
def termMayUptoRow : OpenClaim := { program := "ytaclncmkdpjnlaa", sum := "c74ba3751f1eb4f60f05885fd54fcc347cfd3cdd65f3acd45ce7e5709ff76356", func := "assize/assizelaw7.TermMay", spec := "termMay", unfollowed := true, recurses := true, loops := true, apart := false, narrowed := true }
def TermMayUptoSaid : Prop := termMayUptoRow.holds Try.pinned (OpenSpec.upto termMaySpec)

/-- 'assizelaw7.TermInst', WHERE WHAT IT READS IS OF BULK AT MOST 1048576: true; the input reads as it did. -/
def termInstUptoRow : OpenClaim := { program := "ytaclncmkdpjnlaa", sum := "c74ba3751f1eb4f60f05885fd54fcc347cfd3cdd65f3acd45ce7e5709ff76356", func := "assize/assizelaw7.TermInst", spec := "termInst", unfollowed := true, recurses := true, loops := true, apart := false, narrowed := true }
def TermInstUptoSaid : Prop := termInstUptoRow.holds Try.pinned (OpenSpec.upto termInstSpec)

/-- 'assizelaw7.TermDoubles', WHERE WHAT IT READS IS OF BULK AT MOST 1048576: true; the input reads as it did. -/
def termDoublesUptoRow : OpenClaim := { program := "ytaclncmkdpjnlaa", sum := "c74ba3751f1eb4f60f05885fd54fcc347cfd3cdd65f3acd45ce7e5709ff76356", func := "assize/assizelaw7.TermDoubles", spec := "termDoubles", unfollowed := true, recurses := true, apart := false, narrowed := true }
def TermDoublesUptoSaid : Prop := termDoublesUptoRow.holds Try.pinned (OpenSpec.upto termDoublesSpec)

/-- 'assizelaw7.TermBack', WHERE WHAT IT READS IS OF BULK AT MOST 1048576: true; the input reads as it did. -/
def termBackUptoRow : OpenClaim := { program := "ytaclncmkdpjnlaa", sum := "c74ba3751f1eb4f60f05885fd54fcc347cfd3cdd65f3acd45ce7e5709ff76356", func := "assize/assizelaw7.TermBack", spec := "termBack", unfollowed := true, recurses := true, loops := true, apart := false, narrowed := true }
def TermBackUptoSaid : Prop := termBackUptoRow.holds Try.pinned (OpenSpec.upto termBackSpec)

/-- 'assizelaw7.TermPuts', WHERE WHAT IT READS IS OF BULK AT MOST 1048576: true; the input reads as it did. -/
def termPutsUptoRow : OpenClaim := { program := "ytaclncmkdpjnlaa", sum := "c74ba3751f1eb4f60f05885fd54fcc347cfd3cdd65f3acd45ce7e5709ff76356", func := "assize/assizelaw7.TermPuts", spec := "termPuts", unfollowed := true, recurses := true, loops := true, apart := false, narrowed := true }
def TermPutsUptoSaid : Prop := termPutsUptoRow.holds Try.pinned (OpenSpec.upto termPutsSpec)

/-- 'assizelaw7.TermSpines', WHERE WHAT IT READS IS OF BULK AT MOST 1048576: true; the input reads as it did. -/
def termSpinesUptoRow : OpenClaim := { program := "ytaclncmkdpjnlaa", sum := "c74ba3751f1eb4f60f05885fd54fcc347cfd3cdd65f3acd45ce7e5709ff76356", func := "assize/assizelaw7.TermSpines", spec := "termSpines", unfollowed := true, recurses := true, loops := true, apart := false, narrowed := true }
def TermSpinesUptoSaid : Prop := termSpinesUptoRow.holds Try.pinned (OpenSpec.upto termSpinesSpec)

end Rows
end Go.Proofs.Ytaclncmkdpjnlaa
