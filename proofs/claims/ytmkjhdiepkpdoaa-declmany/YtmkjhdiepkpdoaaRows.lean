/-
  NARROWER THAN 'FOR EVERY INPUT', by the rows' own cells (each row's printed sentence says how): TermMakes: loops · TermInst: loops · DeclMay: loops · DeclSame: loops.
  DERIVED. THE GIVEN ROWS OF THIS SEAT. 5 by the template 'for every input the law returns true; each argument reads behind the call as it read before'; 0 by the template 'total and deterministic' (their statements: YtmkjhdiepkpdoaaTotals.lean).
  GIVEN WITH THE SEED: the statements are not yours to turn. If you find one false, say at which input.
  Laid BY PROGRAM, IN A SANDBOX (cutbox-rows.mjs): the forced cells as the released guide's own fill.sh prints them over the translation 1db9157418413e84… (all of the seat's roots in one cut). By AI agents, Wed Nov 11 2026. No macro, syntax, notation, axiom, sorry.
-/
import Derived.Test.YtmkjhdiepkpdoaaChecked
import GoSem.Claim
import GoSem.ClaimJoined
import GoSem.ClaimMapViews
import Derived.JoinedTies
import Derived.KernelRfl
namespace Go.Proofs.Ytmkjhdiepkpdoaa
/- THE CELL 'sum', in the pinned program and in every row, IS THE sha256 OF THE DUMP (.gsa) THAT YtmkjhdiepkpdoaaProg.lean LOADS. Nothing in Lean hashes anything: it is a label: what it is worth is what the hold of that sum in a sandbox is worth. -/
noncomputable def Try.pinned : Pinned := { name := "ytmkjhdiepkpdoaa", sum := "1db9157418413e84af0220302c3656b26badfd47dc8bdc950c07d8a87ed2129e", checked := Try.checked }
namespace Rows
def none {H : Type} : Left H := { results := [], args := [] }

/-- 'assizelaw7.TermMakes': WHATEVER THE INPUT: true; the input reads as it did. -/
def termMakesSpec : ChangeSpec := { name := "termMakes", fn := fun _ => fun
  | [d1, d2, d3, d4, d5, d6, d7, d8] => { results := [.lit (.bool true)], args := [d1, d2, d3, d4, d5, d6, d7, d8] }
  | _ => none }
def termMakesRow : OpenClaim := { program := "ytmkjhdiepkpdoaa", sum := "1db9157418413e84af0220302c3656b26badfd47dc8bdc950c07d8a87ed2129e", func := "assize/assizelaw7.TermMakes", spec := "termMakes", unfollowed := true, recurses := true, loops := true, apart := false }
def TermMakesSaid : Prop := termMakesRow.holds Try.pinned (OpenSpec.ofChange termMakesSpec)

/-- ITS FALSE NEIGHBOUR: 'it returns false'. Refute it at one input. -/
def termMakesWrong : ChangeSpec := { name := "termMakes", fn := fun _ => fun
  | [d1, d2, d3, d4, d5, d6, d7, d8] => { results := [.lit (.bool false)], args := [d1, d2, d3, d4, d5, d6, d7, d8] }
  | _ => none }
def TermMakesWrongFalsely : Prop := termMakesRow.holds Try.pinned (OpenSpec.ofChange termMakesWrong)

/-- 'assizelaw7.TermInst': WHATEVER THE INPUT: true; the input reads as it did. -/
def termInstSpec : ChangeSpec := { name := "termInst", fn := fun _ => fun
  | [d1, d2, d3] => { results := [.lit (.bool true)], args := [d1, d2, d3] }
  | _ => none }
def termInstRow : OpenClaim := { program := "ytmkjhdiepkpdoaa", sum := "1db9157418413e84af0220302c3656b26badfd47dc8bdc950c07d8a87ed2129e", func := "assize/assizelaw7.TermInst", spec := "termInst", unfollowed := true, recurses := true, loops := true, apart := false }
def TermInstSaid : Prop := termInstRow.holds Try.pinned (OpenSpec.ofChange termInstSpec)

/-- ITS FALSE NEIGHBOUR: 'it returns false'. Refute it at one input. -/
def termInstWrong : ChangeSpec := { name := "termInst", fn := fun _ => fun
  | [d1, d2, d3] => { results := [.lit (.bool false)], args := [d1, d2, d3] }
  | _ => none }
def TermInstWrongFalsely : Prop := termInstRow.holds Try.pinned (OpenSpec.ofChange termInstWrong)

/-- 'assizelaw9.DeclMay': WHATEVER THE INPUT: true; the input reads as it did. -/
def declMaySpec : ChangeSpec := { name := "declMay", fn := fun _ => fun
  | [d] => { results := [.lit (.bool true)], args := [d] }
  | _ => none }
def declMayRow : OpenClaim := { program := "ytmkjhdiepkpdoaa", sum := "1db9157418413e84af0220302c3656b26badfd47dc8bdc950c07d8a87ed2129e", func := "assize/assizelaw9.DeclMay", spec := "declMay", unfollowed := true, recurses := true, loops := true, apart := false }
def DeclMaySaid : Prop := declMayRow.holds Try.pinned (OpenSpec.ofChange declMaySpec)

/-- ITS FALSE NEIGHBOUR: 'it returns false'. Refute it at one input. -/
def declMayWrong : ChangeSpec := { name := "declMay", fn := fun _ => fun
  | [d] => { results := [.lit (.bool false)], args := [d] }
  | _ => none }
def DeclMayWrongFalsely : Prop := declMayRow.holds Try.pinned (OpenSpec.ofChange declMayWrong)

/-- 'assizelaw9.DeclMany': WHATEVER THE INPUT: true; the input reads as it did. -/
def declManySpec : ChangeSpec := { name := "declMany", fn := fun _ => fun
  | [d1, d2] => { results := [.lit (.bool true)], args := [d1, d2] }
  | _ => none }
def declManyRow : OpenClaim := { program := "ytmkjhdiepkpdoaa", sum := "1db9157418413e84af0220302c3656b26badfd47dc8bdc950c07d8a87ed2129e", func := "assize/assizelaw9.DeclMany", spec := "declMany", unfollowed := true, recurses := true, apart := false }
def DeclManySaid : Prop := declManyRow.holds Try.pinned (OpenSpec.ofChange declManySpec)

/-- ITS FALSE NEIGHBOUR: 'it returns false'. Refute it at one input. -/
def declManyWrong : ChangeSpec := { name := "declMany", fn := fun _ => fun
  | [d1, d2] => { results := [.lit (.bool false)], args := [d1, d2] }
  | _ => none }
def DeclManyWrongFalsely : Prop := declManyRow.holds Try.pinned (OpenSpec.ofChange declManyWrong)

/-- 'assizelaw9.DeclSame': WHATEVER THE INPUT: true; the input reads as it did. -/
def declSameSpec : ChangeSpec := { name := "declSame", fn := fun _ => fun
  | [d1, d2] => { results := [.lit (.bool true)], args := [d1, d2] }
  | _ => none }
def declSameRow : OpenClaim := { program := "ytmkjhdiepkpdoaa", sum := "1db9157418413e84af0220302c3656b26badfd47dc8bdc950c07d8a87ed2129e", func := "assize/assizelaw9.DeclSame", spec := "declSame", unfollowed := true, recurses := true, loops := true, apart := false }
def DeclSameSaid : Prop := declSameRow.holds Try.pinned (OpenSpec.ofChange declSameSpec)

/-- ITS FALSE NEIGHBOUR: 'it returns false'. Refute it at one input. -/
def declSameWrong : ChangeSpec := { name := "declSame", fn := fun _ => fun
  | [d1, d2] => { results := [.lit (.bool false)], args := [d1, d2] }
  | _ => none }
def DeclSameWrongFalsely : Prop := declSameRow.holds Try.pinned (OpenSpec.ofChange declSameWrong)

/- THE SECOND FORM. 'bulk': how many values and letters a reading holds, each counted each time it is reached (what is shared counts as often as it is met; a slice's spare places count too). A statement '..UptoSaid' is the law's where the arguments, and the package variables that the reading takes, are together of bulk at most 1048576: NARROWER than '..Said'. Prove '..Said' where nothing that the law and all that it calls make is longer than what came in: it says more and counts as full. Else prove '..UptoSaid'. A law counts once. -/
mutual
def uptoBulk {H : Type} : DataW H → Nat
  | .lit (.string bytes) => bytes.length + 1
  | .lit _ => 1
  | .nil => 1
  | .ptr d => uptoBulk d + 1
  | .slice elems spare => uptoBulkAll elems + uptoBulkAll spare + 1
  | .agg parts => uptoBulkAll parts + 1
  | .iface _ d => uptoBulk d + 1
  | .map entries => uptoBulkEntries entries + 1
  | .held _ => 1
def uptoBulkAll {H : Type} : List (DataW H) → Nat
  | [] => 0
  | d :: r => uptoBulk d + uptoBulkAll r
def uptoBulkEntries {H : Type} : List (Lit × DataW H) → Nat
  | [] => 0
  | x :: r => uptoBulkEntry x + uptoBulkEntries r
def uptoBulkEntry {H : Type} : Lit × DataW H → Nat
  | (.string bytes, d) => bytes.length + uptoBulk d + 1
  | (_, d) => uptoBulk d + 1
 end
def uptoSmall : (H : Type) → List (DataW H) → Bool := fun _ ds => decide (uptoBulkAll ds ≤ 1048576)
def OpenSpec.upto (s : _root_.Go.ChangeSpec) : _root_.Go.OpenSpec := { _root_.Go.OpenSpec.ofChange s with cond := some uptoSmall }

/-- 'assizelaw7.TermMakes', WHERE WHAT IT READS IS OF BULK AT MOST 1048576: true; the input reads as it did. -/
def termMakesUptoRow : OpenClaim := { program := "ytmkjhdiepkpdoaa", sum := "1db9157418413e84af0220302c3656b26badfd47dc8bdc950c07d8a87ed2129e", func := "assize/assizelaw7.TermMakes", spec := "termMakes", unfollowed := true, recurses := true, loops := true, apart := false, narrowed := true }
def TermMakesUptoSaid : Prop := termMakesUptoRow.holds Try.pinned (OpenSpec.upto termMakesSpec)

/-- 'assizelaw7.TermInst', WHERE WHAT IT READS IS OF BULK AT MOST 1048576: true; the input reads as it did. -/
def termInstUptoRow : OpenClaim := { program := "ytmkjhdiepkpdoaa", sum := "1db9157418413e84af0220302c3656b26badfd47dc8bdc950c07d8a87ed2129e", func := "assize/assizelaw7.TermInst", spec := "termInst", unfollowed := true, recurses := true, loops := true, apart := false, narrowed := true }
def TermInstUptoSaid : Prop := termInstUptoRow.holds Try.pinned (OpenSpec.upto termInstSpec)

/-- 'assizelaw9.DeclMay', WHERE WHAT IT READS IS OF BULK AT MOST 1048576: true; the input reads as it did. -/
def declMayUptoRow : OpenClaim := { program := "ytmkjhdiepkpdoaa", sum := "1db9157418413e84af0220302c3656b26badfd47dc8bdc950c07d8a87ed2129e", func := "assize/assizelaw9.DeclMay", spec := "declMay", unfollowed := true, recurses := true, loops := true, apart := false, narrowed := true }
def DeclMayUptoSaid : Prop := declMayUptoRow.holds Try.pinned (OpenSpec.upto declMaySpec)

/-- 'assizelaw9.DeclMany', WHERE WHAT IT READS IS OF BULK AT MOST 1048576: true; the input reads as it did. -/
def declManyUptoRow : OpenClaim := { program := "ytmkjhdiepkpdoaa", sum := "1db9157418413e84af0220302c3656b26badfd47dc8bdc950c07d8a87ed2129e", func := "assize/assizelaw9.DeclMany", spec := "declMany", unfollowed := true, recurses := true, apart := false, narrowed := true }
def DeclManyUptoSaid : Prop := declManyUptoRow.holds Try.pinned (OpenSpec.upto declManySpec)

/-- 'assizelaw9.DeclSame', WHERE WHAT IT READS IS OF BULK AT MOST 1048576: true; the input reads as it did. -/
def declSameUptoRow : OpenClaim := { program := "ytmkjhdiepkpdoaa", sum := "1db9157418413e84af0220302c3656b26badfd47dc8bdc950c07d8a87ed2129e", func := "assize/assizelaw9.DeclSame", spec := "declSame", unfollowed := true, recurses := true, loops := true, apart := false, narrowed := true }
def DeclSameUptoSaid : Prop := declSameUptoRow.holds Try.pinned (OpenSpec.upto declSameSpec)

end Rows
end Go.Proofs.Ytmkjhdiepkpdoaa
