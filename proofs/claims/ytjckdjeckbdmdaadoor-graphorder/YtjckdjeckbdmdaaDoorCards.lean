/-
  DERIVED. GIVEN WITH THE SEED: THE CARDS: each row of YtjckdjeckbdmdaaDoorRows.lean that lists a variable, with what it lists TIED to the program's text (the seventh form; the later family's looks); each row that meets fmt, with fmt's text TOLD by the authors' own Lean function (tested against real Go, not proved from fmt's source: count such statements apart). THE CARD IS WHAT COUNTS. Prove the row's statement (the work); the ties are given (YtjckdjeckbdmdaaDoorTie.lean); close each card by the builder's one call (the guide's Derived/Test/ToyasCard.lean, 'card_holds'). Laid BY PROGRAM, IN A SANDBOX (cutbox-door.mjs). By AI agents, Wed Nov 11 2026. No macro, syntax, notation, axiom, sorry.
-/
import Derived.Test.YtjckdjeckbdmdaaDoorRows
import GoSem.ClaimSeven
namespace Go.Proofs.YtjckdjeckbdmdaaDoor
namespace Rows

/-- THE TIED CARD OF 'haruspexlaw5.GraphReach'. -/
def graphReachCard : Claim7 := { stood := { row := graphReachRow, standIns := [], harness := (true, "7555128512328bc4469a665f1185976271887380dfb9afebe5ba322fb4c054ab"), looks := false }, kinds := [], alts := [], laidByText := true, laidKinds := [.data], laidTests := true, laidLooks := .later }
def GraphReachCardSaid : Prop := Claim7.holds Tryd.pinned (.plain (OpenSpec.ofChange graphReachSpec)) graphReachCard

/-- THE TIED CARD OF 'haruspexlaw5.GraphParts'. -/
def graphPartsCard : Claim7 := { stood := { row := graphPartsRow, standIns := [], harness := (true, "7555128512328bc4469a665f1185976271887380dfb9afebe5ba322fb4c054ab"), looks := false }, kinds := [], alts := [], laidByText := true, laidKinds := [.data], laidTests := true, laidLooks := .later }
def GraphPartsCardSaid : Prop := Claim7.holds Tryd.pinned (.plain (OpenSpec.ofChange graphPartsSpec)) graphPartsCard

/-- THE TIED CARD OF 'haruspexlaw5.GraphOrder'. -/
def graphOrderCard : Claim7 := { stood := { row := graphOrderRow, standIns := [], harness := (true, "7555128512328bc4469a665f1185976271887380dfb9afebe5ba322fb4c054ab"), looks := false }, kinds := [], alts := [], laidByText := true, laidKinds := [.data], laidTests := true, laidLooks := .later }
def GraphOrderCardSaid : Prop := Claim7.holds Tryd.pinned (.plain (OpenSpec.ofChange graphOrderSpec)) graphOrderCard

/-- THE TIED CARD OF 'haruspexlaw5.GraphPath'. -/
def graphPathCard : Claim7 := { stood := { row := graphPathRow, standIns := [], harness := (true, "7555128512328bc4469a665f1185976271887380dfb9afebe5ba322fb4c054ab"), looks := false }, kinds := [], alts := [], laidByText := true, laidKinds := [.data], laidTests := true, laidLooks := .later }
def GraphPathCardSaid : Prop := Claim7.holds Tryd.pinned (.plain (OpenSpec.ofChange graphPathSpec)) graphPathCard

/-- THE TIED CARD OF 'haruspexlaw5.GraphTurn'. -/
def graphTurnCard : Claim7 := { stood := { row := graphTurnRow, standIns := [], harness := (true, "7555128512328bc4469a665f1185976271887380dfb9afebe5ba322fb4c054ab"), looks := false }, kinds := [], alts := [], laidByText := true, laidKinds := [.data], laidTests := true, laidLooks := .later }
def GraphTurnCardSaid : Prop := Claim7.holds Tryd.pinned (.plain (OpenSpec.ofChange graphTurnSpec)) graphTurnCard

/-- THE TIED CARD OF 'haruspexlaw5.GraphRaw'. -/
def graphRawCard : Claim7 := { stood := { row := graphRawRow, standIns := [], harness := (true, "7555128512328bc4469a665f1185976271887380dfb9afebe5ba322fb4c054ab"), looks := false }, kinds := [], alts := [], laidByText := true, laidKinds := [.data], laidTests := true, laidLooks := .later }
def GraphRawCardSaid : Prop := Claim7.holds Tryd.pinned (.plain (OpenSpec.ofChange graphRawSpec)) graphRawCard

/-- THE SECOND FORM's CARD OF 'haruspexlaw5.GraphReach'. -/
def graphReachUptoCard : Claim7 := { stood := { row := graphReachUptoRow, standIns := [], harness := (true, "7555128512328bc4469a665f1185976271887380dfb9afebe5ba322fb4c054ab"), looks := false }, kinds := [], alts := [], laidByText := true, laidKinds := [.data], laidTests := true, laidLooks := .later }
def GraphReachUptoCardSaid : Prop := Claim7.holds Tryd.pinned (.plain (OpenSpec.upto graphReachSpec)) graphReachUptoCard

/-- THE SECOND FORM's CARD OF 'haruspexlaw5.GraphParts'. -/
def graphPartsUptoCard : Claim7 := { stood := { row := graphPartsUptoRow, standIns := [], harness := (true, "7555128512328bc4469a665f1185976271887380dfb9afebe5ba322fb4c054ab"), looks := false }, kinds := [], alts := [], laidByText := true, laidKinds := [.data], laidTests := true, laidLooks := .later }
def GraphPartsUptoCardSaid : Prop := Claim7.holds Tryd.pinned (.plain (OpenSpec.upto graphPartsSpec)) graphPartsUptoCard

/-- THE SECOND FORM's CARD OF 'haruspexlaw5.GraphOrder'. -/
def graphOrderUptoCard : Claim7 := { stood := { row := graphOrderUptoRow, standIns := [], harness := (true, "7555128512328bc4469a665f1185976271887380dfb9afebe5ba322fb4c054ab"), looks := false }, kinds := [], alts := [], laidByText := true, laidKinds := [.data], laidTests := true, laidLooks := .later }
def GraphOrderUptoCardSaid : Prop := Claim7.holds Tryd.pinned (.plain (OpenSpec.upto graphOrderSpec)) graphOrderUptoCard

/-- THE SECOND FORM's CARD OF 'haruspexlaw5.GraphPath'. -/
def graphPathUptoCard : Claim7 := { stood := { row := graphPathUptoRow, standIns := [], harness := (true, "7555128512328bc4469a665f1185976271887380dfb9afebe5ba322fb4c054ab"), looks := false }, kinds := [], alts := [], laidByText := true, laidKinds := [.data], laidTests := true, laidLooks := .later }
def GraphPathUptoCardSaid : Prop := Claim7.holds Tryd.pinned (.plain (OpenSpec.upto graphPathSpec)) graphPathUptoCard

/-- THE SECOND FORM's CARD OF 'haruspexlaw5.GraphTurn'. -/
def graphTurnUptoCard : Claim7 := { stood := { row := graphTurnUptoRow, standIns := [], harness := (true, "7555128512328bc4469a665f1185976271887380dfb9afebe5ba322fb4c054ab"), looks := false }, kinds := [], alts := [], laidByText := true, laidKinds := [.data], laidTests := true, laidLooks := .later }
def GraphTurnUptoCardSaid : Prop := Claim7.holds Tryd.pinned (.plain (OpenSpec.upto graphTurnSpec)) graphTurnUptoCard

/-- THE SECOND FORM's CARD OF 'haruspexlaw5.GraphRaw'. -/
def graphRawUptoCard : Claim7 := { stood := { row := graphRawUptoRow, standIns := [], harness := (true, "7555128512328bc4469a665f1185976271887380dfb9afebe5ba322fb4c054ab"), looks := false }, kinds := [], alts := [], laidByText := true, laidKinds := [.data], laidTests := true, laidLooks := .later }
def GraphRawUptoCardSaid : Prop := Claim7.holds Tryd.pinned (.plain (OpenSpec.upto graphRawSpec)) graphRawUptoCard
end Rows
end Go.Proofs.YtjckdjeckbdmdaaDoor
