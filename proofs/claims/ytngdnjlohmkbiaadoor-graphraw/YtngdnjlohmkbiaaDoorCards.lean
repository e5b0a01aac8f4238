/-
  DERIVED. GIVEN WITH THE SEED: THE CARDS: each row of YtngdnjlohmkbiaaDoorRows.lean that lists a variable, with what it lists TIED to the program's text (the seventh form; the later family's looks); each row that meets fmt, with fmt's text TOLD by the authors' own Lean function (tested against real Go, not proved from fmt's source: count such statements apart). THE CARD IS WHAT COUNTS. Prove the row's statement (the work); the ties are given (YtngdnjlohmkbiaaDoorTie.lean); close each card by the builder's one call (the guide's Derived/Test/ToyasCard.lean, 'card_holds'). Laid BY PROGRAM, IN A SANDBOX (cutbox-door.mjs). By AI agents, Wed Nov 11 2026. No macro, syntax, notation, axiom, sorry.
-/
import Derived.Test.YtngdnjlohmkbiaaDoorRows
import GoSem.ClaimSeven
namespace Go.Proofs.YtngdnjlohmkbiaaDoor
namespace Rows

/-- THE TIED CARD OF 'haruspexlaw5.GraphReach'. -/
def graphReachCard : Claim7 := { stood := { row := graphReachRow, standIns := [], harness := (true, "5cc818a9b00e99140989b4185d6abb1e3387db75a3b8f3d82af149071a8022f5"), looks := false }, kinds := [], alts := [], laidByText := true, laidKinds := [.data], laidTests := true, laidLooks := .later }
def GraphReachCardSaid : Prop := Claim7.holds Tryd.pinned (.plain (OpenSpec.ofChange graphReachSpec)) graphReachCard

/-- THE TIED CARD OF 'haruspexlaw5.GraphParts'. -/
def graphPartsCard : Claim7 := { stood := { row := graphPartsRow, standIns := [], harness := (true, "5cc818a9b00e99140989b4185d6abb1e3387db75a3b8f3d82af149071a8022f5"), looks := false }, kinds := [], alts := [], laidByText := true, laidKinds := [.data], laidTests := true, laidLooks := .later }
def GraphPartsCardSaid : Prop := Claim7.holds Tryd.pinned (.plain (OpenSpec.ofChange graphPartsSpec)) graphPartsCard

/-- THE TIED CARD OF 'haruspexlaw5.GraphPath'. -/
def graphPathCard : Claim7 := { stood := { row := graphPathRow, standIns := [], harness := (true, "5cc818a9b00e99140989b4185d6abb1e3387db75a3b8f3d82af149071a8022f5"), looks := false }, kinds := [], alts := [], laidByText := true, laidKinds := [.data], laidTests := true, laidLooks := .later }
def GraphPathCardSaid : Prop := Claim7.holds Tryd.pinned (.plain (OpenSpec.ofChange graphPathSpec)) graphPathCard

/-- THE TIED CARD OF 'haruspexlaw5.GraphRaw'. -/
def graphRawCard : Claim7 := { stood := { row := graphRawRow, standIns := [], harness := (true, "5cc818a9b00e99140989b4185d6abb1e3387db75a3b8f3d82af149071a8022f5"), looks := false }, kinds := [], alts := [], laidByText := true, laidKinds := [.data], laidTests := true, laidLooks := .later }
def GraphRawCardSaid : Prop := Claim7.holds Tryd.pinned (.plain (OpenSpec.ofChange graphRawSpec)) graphRawCard

/-- THE TIED CARD OF 'haruspexlaw5.GraphMore'. -/
def graphMoreCard : Claim7 := { stood := { row := graphMoreRow, standIns := [], harness := (true, "5cc818a9b00e99140989b4185d6abb1e3387db75a3b8f3d82af149071a8022f5"), looks := false }, kinds := [], alts := [], laidByText := true, laidKinds := [.data], laidTests := true, laidLooks := .later }
def GraphMoreCardSaid : Prop := Claim7.holds Tryd.pinned (.plain (OpenSpec.ofChange graphMoreSpec)) graphMoreCard

/-- THE TIED CARD OF 'haruspexlaw5.GraphPathLeast'. -/
def graphPathLeastCard : Claim7 := { stood := { row := graphPathLeastRow, standIns := [], harness := (true, "5cc818a9b00e99140989b4185d6abb1e3387db75a3b8f3d82af149071a8022f5"), looks := false }, kinds := [], alts := [], laidByText := true, laidKinds := [.data], laidTests := true, laidLooks := .later }
def GraphPathLeastCardSaid : Prop := Claim7.holds Tryd.pinned (.plain (OpenSpec.ofChange graphPathLeastSpec)) graphPathLeastCard

/-- THE SECOND FORM's CARD OF 'haruspexlaw5.GraphReach'. -/
def graphReachUptoCard : Claim7 := { stood := { row := graphReachUptoRow, standIns := [], harness := (true, "5cc818a9b00e99140989b4185d6abb1e3387db75a3b8f3d82af149071a8022f5"), looks := false }, kinds := [], alts := [], laidByText := true, laidKinds := [.data], laidTests := true, laidLooks := .later }
def GraphReachUptoCardSaid : Prop := Claim7.holds Tryd.pinned (.plain (OpenSpec.upto graphReachSpec)) graphReachUptoCard

/-- THE SECOND FORM's CARD OF 'haruspexlaw5.GraphParts'. -/
def graphPartsUptoCard : Claim7 := { stood := { row := graphPartsUptoRow, standIns := [], harness := (true, "5cc818a9b00e99140989b4185d6abb1e3387db75a3b8f3d82af149071a8022f5"), looks := false }, kinds := [], alts := [], laidByText := true, laidKinds := [.data], laidTests := true, laidLooks := .later }
def GraphPartsUptoCardSaid : Prop := Claim7.holds Tryd.pinned (.plain (OpenSpec.upto graphPartsSpec)) graphPartsUptoCard

/-- THE SECOND FORM's CARD OF 'haruspexlaw5.GraphPath'. -/
def graphPathUptoCard : Claim7 := { stood := { row := graphPathUptoRow, standIns := [], harness := (true, "5cc818a9b00e99140989b4185d6abb1e3387db75a3b8f3d82af149071a8022f5"), looks := false }, kinds := [], alts := [], laidByText := true, laidKinds := [.data], laidTests := true, laidLooks := .later }
def GraphPathUptoCardSaid : Prop := Claim7.holds Tryd.pinned (.plain (OpenSpec.upto graphPathSpec)) graphPathUptoCard

/-- THE SECOND FORM's CARD OF 'haruspexlaw5.GraphRaw'. -/
def graphRawUptoCard : Claim7 := { stood := { row := graphRawUptoRow, standIns := [], harness := (true, "5cc818a9b00e99140989b4185d6abb1e3387db75a3b8f3d82af149071a8022f5"), looks := false }, kinds := [], alts := [], laidByText := true, laidKinds := [.data], laidTests := true, laidLooks := .later }
def GraphRawUptoCardSaid : Prop := Claim7.holds Tryd.pinned (.plain (OpenSpec.upto graphRawSpec)) graphRawUptoCard

/-- THE SECOND FORM's CARD OF 'haruspexlaw5.GraphMore'. -/
def graphMoreUptoCard : Claim7 := { stood := { row := graphMoreUptoRow, standIns := [], harness := (true, "5cc818a9b00e99140989b4185d6abb1e3387db75a3b8f3d82af149071a8022f5"), looks := false }, kinds := [], alts := [], laidByText := true, laidKinds := [.data], laidTests := true, laidLooks := .later }
def GraphMoreUptoCardSaid : Prop := Claim7.holds Tryd.pinned (.plain (OpenSpec.upto graphMoreSpec)) graphMoreUptoCard

/-- THE SECOND FORM's CARD OF 'haruspexlaw5.GraphPathLeast'. -/
def graphPathLeastUptoCard : Claim7 := { stood := { row := graphPathLeastUptoRow, standIns := [], harness := (true, "5cc818a9b00e99140989b4185d6abb1e3387db75a3b8f3d82af149071a8022f5"), looks := false }, kinds := [], alts := [], laidByText := true, laidKinds := [.data], laidTests := true, laidLooks := .later }
def GraphPathLeastUptoCardSaid : Prop := Claim7.holds Tryd.pinned (.plain (OpenSpec.upto graphPathLeastSpec)) graphPathLeastUptoCard
end Rows
end Go.Proofs.YtngdnjlohmkbiaaDoor
