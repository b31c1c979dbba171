/-
  DERIVED. GIVEN WITH THE SEED: THE CARDS: each row of YtefpenjcgplamaaDoorRows.lean that lists a variable, with what it lists TIED to the program's text (the seventh form; the later family's looks); each row that meets fmt, with fmt's text TOLD by the authors' own Lean function (tested against real Go, not proved from fmt's source: count such statements apart). THE CARD IS WHAT COUNTS. Prove the row's statement (the work); the ties are given (YtefpenjcgplamaaDoorTie.lean); close each card by the builder's one call (the guide's Derived/Test/ToyasCard.lean, 'card_holds'). Laid BY PROGRAM, IN A SANDBOX (cutbox-door.mjs). By AI agents, Wed Nov 11 2026. No macro, syntax, notation, axiom, sorry.
-/
import Derived.Test.YtefpenjcgplamaaDoorRows
import GoSem.ClaimSeven
namespace Go.Proofs.YtefpenjcgplamaaDoor
namespace Rows

/-- THE TIED CARD OF 'assizelaw5.SigSigns'. -/
def sigSignsCard : Claim7 := { stood := { row := sigSignsRow, standIns := [], harness := (true, "ed0e580ab84214a17ed1a223877a6e77c49e9eb443e2b8ac3061bc079c8810e3"), looks := false }, kinds := [], alts := [], laidByText := true, laidKinds := [.data], laidTests := true, laidLooks := .later }
def SigSignsCardSaid : Prop := Claim7.holds Tryd.pinned (.plain (OpenSpec.ofChange sigSignsSpec)) sigSignsCard

/-- THE TIED CARD OF 'assizelaw5.SigLedgers'. -/
def sigLedgersCard : Claim7 := { stood := { row := sigLedgersRow, standIns := [], harness := (true, "ed0e580ab84214a17ed1a223877a6e77c49e9eb443e2b8ac3061bc079c8810e3"), looks := false }, kinds := [], alts := [], laidByText := true, laidKinds := [.data], laidTests := true, laidLooks := .later }
def SigLedgersCardSaid : Prop := Claim7.holds Tryd.pinned (.plain (OpenSpec.ofChange sigLedgersSpec)) sigLedgersCard

/-- THE TIED CARD OF 'assizelaw5.SigNil'. -/
def sigNilCard : Claim7 := { stood := { row := sigNilRow, standIns := [], harness := (true, "ed0e580ab84214a17ed1a223877a6e77c49e9eb443e2b8ac3061bc079c8810e3"), looks := false }, kinds := [], alts := [], laidByText := true, laidKinds := [.data], laidTests := true, laidLooks := .later }
def SigNilCardSaid : Prop := Claim7.holds Tryd.pinned (.plain (OpenSpec.ofChange sigNilSpec)) sigNilCard

/-- THE TIED CARD OF 'assizelaw5.SigGrows'. -/
def sigGrowsCard : Claim7 := { stood := { row := sigGrowsRow, standIns := [], harness := (true, "ed0e580ab84214a17ed1a223877a6e77c49e9eb443e2b8ac3061bc079c8810e3"), looks := false }, kinds := [], alts := [], laidByText := true, laidKinds := [.data], laidTests := true, laidLooks := .later }
def SigGrowsCardSaid : Prop := Claim7.holds Tryd.pinned (.plain (OpenSpec.ofChange sigGrowsSpec)) sigGrowsCard

/-- THE SECOND FORM's CARD OF 'assizelaw5.SigSigns'. -/
def sigSignsUptoCard : Claim7 := { stood := { row := sigSignsUptoRow, standIns := [], harness := (true, "ed0e580ab84214a17ed1a223877a6e77c49e9eb443e2b8ac3061bc079c8810e3"), looks := false }, kinds := [], alts := [], laidByText := true, laidKinds := [.data], laidTests := true, laidLooks := .later }
def SigSignsUptoCardSaid : Prop := Claim7.holds Tryd.pinned (.plain (OpenSpec.upto sigSignsSpec)) sigSignsUptoCard

/-- THE SECOND FORM's CARD OF 'assizelaw5.SigLedgers'. -/
def sigLedgersUptoCard : Claim7 := { stood := { row := sigLedgersUptoRow, standIns := [], harness := (true, "ed0e580ab84214a17ed1a223877a6e77c49e9eb443e2b8ac3061bc079c8810e3"), looks := false }, kinds := [], alts := [], laidByText := true, laidKinds := [.data], laidTests := true, laidLooks := .later }
def SigLedgersUptoCardSaid : Prop := Claim7.holds Tryd.pinned (.plain (OpenSpec.upto sigLedgersSpec)) sigLedgersUptoCard

/-- THE SECOND FORM's CARD OF 'assizelaw5.SigNil'. -/
def sigNilUptoCard : Claim7 := { stood := { row := sigNilUptoRow, standIns := [], harness := (true, "ed0e580ab84214a17ed1a223877a6e77c49e9eb443e2b8ac3061bc079c8810e3"), looks := false }, kinds := [], alts := [], laidByText := true, laidKinds := [.data], laidTests := true, laidLooks := .later }
def SigNilUptoCardSaid : Prop := Claim7.holds Tryd.pinned (.plain (OpenSpec.upto sigNilSpec)) sigNilUptoCard

/-- THE SECOND FORM's CARD OF 'assizelaw5.SigGrows'. -/
def sigGrowsUptoCard : Claim7 := { stood := { row := sigGrowsUptoRow, standIns := [], harness := (true, "ed0e580ab84214a17ed1a223877a6e77c49e9eb443e2b8ac3061bc079c8810e3"), looks := false }, kinds := [], alts := [], laidByText := true, laidKinds := [.data], laidTests := true, laidLooks := .later }
def SigGrowsUptoCardSaid : Prop := Claim7.holds Tryd.pinned (.plain (OpenSpec.upto sigGrowsSpec)) sigGrowsUptoCard
end Rows
end Go.Proofs.YtefpenjcgplamaaDoor
