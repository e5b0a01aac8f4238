/-
  DERIVED. GIVEN WITH THE SEED: THE CARDS: each row of YtngdnjlohmkbiabDoorRows.lean that lists a variable, with what it lists TIED to the program's text (the seventh form; the later family's looks); each row that meets fmt, with fmt's text TOLD by the authors' own Lean function (tested against real Go, not proved from fmt's source: count such statements apart). THE CARD IS WHAT COUNTS. Prove the row's statement (the work); the ties are given (YtngdnjlohmkbiabDoorTie.lean); close each card by the builder's one call (the guide's Derived/Test/ToyasCard.lean, 'card_holds'). Laid BY PROGRAM, IN A SANDBOX (cutbox-door.mjs). By AI agents, Wed Nov 11 2026. No macro, syntax, notation, axiom, sorry.
-/
import Derived.Test.YtngdnjlohmkbiabDoorRows
import GoSem.ClaimSeven
namespace Go.Proofs.YtngdnjlohmkbiabDoor
namespace Rows

/-- THE TIED CARD OF 'haruspexlaw5.GraphRing'. -/
def graphRingCard : Claim7 := { stood := { row := graphRingRow, standIns := [], harness := (true, "0bbbf677fa9cd18425474850e3f9a20ccc8a060c9031822e7e49456637a6d384"), looks := false }, kinds := [], alts := [], laidByText := true, laidKinds := [.data], laidTests := true, laidLooks := .later }
def GraphRingCardSaid : Prop := Claim7.holds Tryd.pinned (.plain (OpenSpec.ofChange graphRingSpec)) graphRingCard

/-- THE TIED CARD OF 'haruspexlaw5.GraphGreat'. -/
def graphGreatCard : Claim7 := { stood := { row := graphGreatRow, standIns := [], harness := (true, "0bbbf677fa9cd18425474850e3f9a20ccc8a060c9031822e7e49456637a6d384"), looks := false }, kinds := [], alts := [], laidByText := true, laidKinds := [.data], laidTests := true, laidLooks := .later }
def GraphGreatCardSaid : Prop := Claim7.holds Tryd.pinned (.plain (OpenSpec.ofChange graphGreatSpec)) graphGreatCard

/-- THE SECOND FORM's CARD OF 'haruspexlaw5.GraphRing'. -/
def graphRingUptoCard : Claim7 := { stood := { row := graphRingUptoRow, standIns := [], harness := (true, "0bbbf677fa9cd18425474850e3f9a20ccc8a060c9031822e7e49456637a6d384"), looks := false }, kinds := [], alts := [], laidByText := true, laidKinds := [.data], laidTests := true, laidLooks := .later }
def GraphRingUptoCardSaid : Prop := Claim7.holds Tryd.pinned (.plain (OpenSpec.upto graphRingSpec)) graphRingUptoCard

/-- THE SECOND FORM's CARD OF 'haruspexlaw5.GraphGreat'. -/
def graphGreatUptoCard : Claim7 := { stood := { row := graphGreatUptoRow, standIns := [], harness := (true, "0bbbf677fa9cd18425474850e3f9a20ccc8a060c9031822e7e49456637a6d384"), looks := false }, kinds := [], alts := [], laidByText := true, laidKinds := [.data], laidTests := true, laidLooks := .later }
def GraphGreatUptoCardSaid : Prop := Claim7.holds Tryd.pinned (.plain (OpenSpec.upto graphGreatSpec)) graphGreatUptoCard
end Rows
end Go.Proofs.YtngdnjlohmkbiabDoor
