/-
  DERIVED. GIVEN WITH THE SEED: THE CARDS: each row of YtjdcphkmaaoehaaDoorRows.lean that lists a variable, with what it lists TIED to the program's text (the seventh form; the later family's looks); each row that meets fmt, with fmt's text TOLD by the authors' own Lean function (tested against real Go, not proved from fmt's source: count such statements apart). THE CARD IS WHAT COUNTS. Prove the row's statement (the work); the ties are given (YtjdcphkmaaoehaaDoorTie.lean); close each card by the builder's one call (the guide's Derived/Test/ToyasCard.lean, 'card_holds'). Laid BY PROGRAM, IN A SANDBOX (cutbox-door.mjs). By AI agents, Wed Nov 11 2026. No macro, syntax, notation, axiom, sorry.
-/
import Derived.Test.YtjdcphkmaaoehaaDoorRows
import GoSem.ClaimSeven
namespace Go.Proofs.YtjdcphkmaaoehaaDoor
namespace Rows

/-- THE TIED CARD OF 'haruspexlaw6.DomWays'. -/
def domWaysCard : Claim7 := { stood := { row := domWaysRow, standIns := [], harness := (true, "a07cb14828c8c779304f50aa065ff694530d3ae9103a762dc1382e940457a0ca"), looks := false }, kinds := [], alts := [], laidByText := true, laidKinds := [.data], laidTests := true, laidLooks := .later }
def DomWaysCardSaid : Prop := Claim7.holds Tryd.pinned (.plain (OpenSpec.ofChange domWaysSpec)) domWaysCard

/-- THE SECOND FORM's CARD OF 'haruspexlaw6.DomWays'. -/
def domWaysUptoCard : Claim7 := { stood := { row := domWaysUptoRow, standIns := [], harness := (true, "a07cb14828c8c779304f50aa065ff694530d3ae9103a762dc1382e940457a0ca"), looks := false }, kinds := [], alts := [], laidByText := true, laidKinds := [.data], laidTests := true, laidLooks := .later }
def DomWaysUptoCardSaid : Prop := Claim7.holds Tryd.pinned (.plain (OpenSpec.upto domWaysSpec)) domWaysUptoCard
end Rows
end Go.Proofs.YtjdcphkmaaoehaaDoor
