/-
  DERIVED. GIVEN WITH THE SEED: THE CARDS: each row of YtjckdjeckbdmdabDoorRows.lean that lists a variable, with what it lists TIED to the program's text (the seventh form; the later family's looks); each row that meets fmt, with fmt's text TOLD by the authors' own Lean function (tested against real Go, not proved from fmt's source: count such statements apart). THE CARD IS WHAT COUNTS. Prove the row's statement (the work); the ties are given (YtjckdjeckbdmdabDoorTie.lean); close each card by the builder's one call (the guide's Derived/Test/ToyasCard.lean, 'card_holds'). Laid BY PROGRAM, IN A SANDBOX (cutbox-door.mjs). By AI agents, Wed Nov 11 2026. No macro, syntax, notation, axiom, sorry.
-/
import Derived.Test.YtjckdjeckbdmdabDoorRows
import GoSem.ClaimSeven
namespace Go.Proofs.YtjckdjeckbdmdabDoor
namespace Rows

/-- THE TIED CARD OF 'haruspexlaw5.GraphLoopsParts'. -/
def graphLoopsPartsCard : Claim7 := { stood := { row := graphLoopsPartsRow, standIns := [], harness := (true, "9eaf936393c37a3d49460c44de9f5528f730ddf13d0316f3123844ec9ef5033e"), looks := false }, kinds := [], alts := [], laidByText := true, laidKinds := [.data], laidTests := true, laidLooks := .later }
def GraphLoopsPartsCardSaid : Prop := Claim7.holds Tryd.pinned (.plain (OpenSpec.ofChange graphLoopsPartsSpec)) graphLoopsPartsCard

/-- THE TIED CARD OF 'haruspexlaw5.GraphMore'. -/
def graphMoreCard : Claim7 := { stood := { row := graphMoreRow, standIns := [], harness := (true, "9eaf936393c37a3d49460c44de9f5528f730ddf13d0316f3123844ec9ef5033e"), looks := false }, kinds := [], alts := [], laidByText := true, laidKinds := [.data], laidTests := true, laidLooks := .later }
def GraphMoreCardSaid : Prop := Claim7.holds Tryd.pinned (.plain (OpenSpec.ofChange graphMoreSpec)) graphMoreCard

/-- THE TIED CARD OF 'haruspexlaw5.GraphPathLeast'. -/
def graphPathLeastCard : Claim7 := { stood := { row := graphPathLeastRow, standIns := [], harness := (true, "9eaf936393c37a3d49460c44de9f5528f730ddf13d0316f3123844ec9ef5033e"), looks := false }, kinds := [], alts := [], laidByText := true, laidKinds := [.data], laidTests := true, laidLooks := .later }
def GraphPathLeastCardSaid : Prop := Claim7.holds Tryd.pinned (.plain (OpenSpec.ofChange graphPathLeastSpec)) graphPathLeastCard

/-- THE TIED CARD OF 'haruspexlaw5.GraphRing'. -/
def graphRingCard : Claim7 := { stood := { row := graphRingRow, standIns := [], harness := (true, "9eaf936393c37a3d49460c44de9f5528f730ddf13d0316f3123844ec9ef5033e"), looks := false }, kinds := [], alts := [], laidByText := true, laidKinds := [.data], laidTests := true, laidLooks := .later }
def GraphRingCardSaid : Prop := Claim7.holds Tryd.pinned (.plain (OpenSpec.ofChange graphRingSpec)) graphRingCard

/-- THE TIED CARD OF 'haruspexlaw5.GraphPartsOrder'. -/
def graphPartsOrderCard : Claim7 := { stood := { row := graphPartsOrderRow, standIns := [], harness := (true, "9eaf936393c37a3d49460c44de9f5528f730ddf13d0316f3123844ec9ef5033e"), looks := false }, kinds := [], alts := [], laidByText := true, laidKinds := [.data], laidTests := true, laidLooks := .later }
def GraphPartsOrderCardSaid : Prop := Claim7.holds Tryd.pinned (.plain (OpenSpec.ofChange graphPartsOrderSpec)) graphPartsOrderCard

/-- THE TIED CARD OF 'haruspexlaw5.GraphGreat'. -/
def graphGreatCard : Claim7 := { stood := { row := graphGreatRow, standIns := [], harness := (true, "9eaf936393c37a3d49460c44de9f5528f730ddf13d0316f3123844ec9ef5033e"), looks := false }, kinds := [], alts := [], laidByText := true, laidKinds := [.data], laidTests := true, laidLooks := .later }
def GraphGreatCardSaid : Prop := Claim7.holds Tryd.pinned (.plain (OpenSpec.ofChange graphGreatSpec)) graphGreatCard

/-- THE SECOND FORM's CARD OF 'haruspexlaw5.GraphLoopsParts'. -/
def graphLoopsPartsUptoCard : Claim7 := { stood := { row := graphLoopsPartsUptoRow, standIns := [], harness := (true, "9eaf936393c37a3d49460c44de9f5528f730ddf13d0316f3123844ec9ef5033e"), looks := false }, kinds := [], alts := [], laidByText := true, laidKinds := [.data], laidTests := true, laidLooks := .later }
def GraphLoopsPartsUptoCardSaid : Prop := Claim7.holds Tryd.pinned (.plain (OpenSpec.upto graphLoopsPartsSpec)) graphLoopsPartsUptoCard

/-- THE SECOND FORM's CARD OF 'haruspexlaw5.GraphMore'. -/
def graphMoreUptoCard : Claim7 := { stood := { row := graphMoreUptoRow, standIns := [], harness := (true, "9eaf936393c37a3d49460c44de9f5528f730ddf13d0316f3123844ec9ef5033e"), looks := false }, kinds := [], alts := [], laidByText := true, laidKinds := [.data], laidTests := true, laidLooks := .later }
def GraphMoreUptoCardSaid : Prop := Claim7.holds Tryd.pinned (.plain (OpenSpec.upto graphMoreSpec)) graphMoreUptoCard

/-- THE SECOND FORM's CARD OF 'haruspexlaw5.GraphPathLeast'. -/
def graphPathLeastUptoCard : Claim7 := { stood := { row := graphPathLeastUptoRow, standIns := [], harness := (true, "9eaf936393c37a3d49460c44de9f5528f730ddf13d0316f3123844ec9ef5033e"), looks := false }, kinds := [], alts := [], laidByText := true, laidKinds := [.data], laidTests := true, laidLooks := .later }
def GraphPathLeastUptoCardSaid : Prop := Claim7.holds Tryd.pinned (.plain (OpenSpec.upto graphPathLeastSpec)) graphPathLeastUptoCard

/-- THE SECOND FORM's CARD OF 'haruspexlaw5.GraphRing'. -/
def graphRingUptoCard : Claim7 := { stood := { row := graphRingUptoRow, standIns := [], harness := (true, "9eaf936393c37a3d49460c44de9f5528f730ddf13d0316f3123844ec9ef5033e"), looks := false }, kinds := [], alts := [], laidByText := true, laidKinds := [.data], laidTests := true, laidLooks := .later }
def GraphRingUptoCardSaid : Prop := Claim7.holds Tryd.pinned (.plain (OpenSpec.upto graphRingSpec)) graphRingUptoCard

/-- THE SECOND FORM's CARD OF 'haruspexlaw5.GraphPartsOrder'. -/
def graphPartsOrderUptoCard : Claim7 := { stood := { row := graphPartsOrderUptoRow, standIns := [], harness := (true, "9eaf936393c37a3d49460c44de9f5528f730ddf13d0316f3123844ec9ef5033e"), looks := false }, kinds := [], alts := [], laidByText := true, laidKinds := [.data], laidTests := true, laidLooks := .later }
def GraphPartsOrderUptoCardSaid : Prop := Claim7.holds Tryd.pinned (.plain (OpenSpec.upto graphPartsOrderSpec)) graphPartsOrderUptoCard

/-- THE SECOND FORM's CARD OF 'haruspexlaw5.GraphGreat'. -/
def graphGreatUptoCard : Claim7 := { stood := { row := graphGreatUptoRow, standIns := [], harness := (true, "9eaf936393c37a3d49460c44de9f5528f730ddf13d0316f3123844ec9ef5033e"), looks := false }, kinds := [], alts := [], laidByText := true, laidKinds := [.data], laidTests := true, laidLooks := .later }
def GraphGreatUptoCardSaid : Prop := Claim7.holds Tryd.pinned (.plain (OpenSpec.upto graphGreatSpec)) graphGreatUptoCard
end Rows
end Go.Proofs.YtjckdjeckbdmdabDoor
