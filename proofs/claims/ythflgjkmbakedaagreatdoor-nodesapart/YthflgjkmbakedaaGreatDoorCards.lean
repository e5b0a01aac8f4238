/-
  DERIVED. GIVEN WITH THE SEED: THE CARDS: each row of YthflgjkmbakedaaGreatDoorRows.lean that lists a variable, with what it lists TIED to the program's text (the seventh form; the later family's looks); each row that meets fmt, with fmt's text TOLD by the authors' own Lean function (tested against real Go, not proved from fmt's source: count such statements apart). THE CARD IS WHAT COUNTS. Prove the row's statement (the work); the ties are given (YthflgjkmbakedaaGreatDoorTie.lean); close each card by the builder's one call (the guide's Derived/Test/ToyasCard.lean, 'card_holds'). Laid BY PROGRAM, IN A SANDBOX (cutbox-door.mjs). By AI agents, Wed Nov 11 2026. No macro, syntax, notation, axiom, sorry.
-/
import Derived.Test.YthflgjkmbakedaaGreatDoorRows
import GoSem.ClaimSeven
namespace Go.Proofs.YthflgjkmbakedaaGreatDoor
namespace Rows

/-- THE TIED CARD OF 'haruspexlaw14.SemRaw'. -/
def semRawCard : Claim7 := { stood := { row := semRawRow, standIns := [], harness := (true, "f64dc83c4f3d3762ae7773426bff7c489557c68267acee9a5894cdb138ba3bd4"), looks := true }, kinds := [], alts := [], laidByText := true, laidKinds := [.data, .handle], laidTests := true, laidLooks := .later }
def SemRawCardSaid : Prop := Claim7.holds Tryz.pinned (.plain (OpenSpec.ofChange semRawSpec)) semRawCard

/-- THE TIED CARD OF 'haruspexlaw14.SemMethod'. -/
def semMethodCard : Claim7 := { stood := { row := semMethodRow, standIns := [], harness := (true, "f64dc83c4f3d3762ae7773426bff7c489557c68267acee9a5894cdb138ba3bd4"), looks := true }, kinds := [], alts := [], laidByText := true, laidKinds := [.data, .handle], laidTests := true, laidLooks := .later }
def SemMethodCardSaid : Prop := Claim7.holds Tryz.pinned (.plain (OpenSpec.ofChange semMethodSpec)) semMethodCard

/-- THE TIED CARD OF 'haruspexlaw15.TraceMore'. -/
def traceMoreCard : Claim7 := { stood := { row := traceMoreRow, standIns := [], harness := (true, "f64dc83c4f3d3762ae7773426bff7c489557c68267acee9a5894cdb138ba3bd4"), looks := true }, kinds := [], alts := [], laidByText := true, laidKinds := [.data, .handle], laidTests := true, laidLooks := .later }
def TraceMoreCardSaid : Prop := Claim7.holds Tryz.pinned (.plain (OpenSpec.ofChange traceMoreSpec)) traceMoreCard

/-- THE TIED CARD OF 'haruspexlaw15.TraceFuel'. -/
def traceFuelCard : Claim7 := { stood := { row := traceFuelRow, standIns := [], harness := (true, "f64dc83c4f3d3762ae7773426bff7c489557c68267acee9a5894cdb138ba3bd4"), looks := true }, kinds := [], alts := [], laidByText := true, laidKinds := [.data, .handle], laidTests := true, laidLooks := .later }
def TraceFuelCardSaid : Prop := Claim7.holds Tryz.pinned (.plain (OpenSpec.ofChange traceFuelSpec)) traceFuelCard

/-- THE TIED CARD OF 'haruspexlaw16.NodesAll'. -/
def nodesAllCard : Claim7 := { stood := { row := nodesAllRow, standIns := [], harness := (true, "f64dc83c4f3d3762ae7773426bff7c489557c68267acee9a5894cdb138ba3bd4"), looks := true }, kinds := [], alts := [], laidByText := true, laidKinds := [.data, .handle], laidTests := true, laidLooks := .later }
def NodesAllCardSaid : Prop := Claim7.holds Tryz.pinned (.plain (OpenSpec.ofChange nodesAllSpec)) nodesAllCard

/-- THE TIED CARD OF 'haruspexlaw16.NodesNone'. -/
def nodesNoneCard : Claim7 := { stood := { row := nodesNoneRow, standIns := [], harness := (true, "f64dc83c4f3d3762ae7773426bff7c489557c68267acee9a5894cdb138ba3bd4"), looks := true }, kinds := [], alts := [], laidByText := true, laidKinds := [.data, .handle], laidTests := true, laidLooks := .later }
def NodesNoneCardSaid : Prop := Claim7.holds Tryz.pinned (.plain (OpenSpec.ofChange nodesNoneSpec)) nodesNoneCard

/-- THE TIED CARD OF 'haruspexlaw16.NodesApart'. -/
def nodesApartCard : Claim7 := { stood := { row := nodesApartRow, standIns := [], harness := (true, "f64dc83c4f3d3762ae7773426bff7c489557c68267acee9a5894cdb138ba3bd4"), looks := true }, kinds := [], alts := [], laidByText := true, laidKinds := [.data, .handle], laidTests := true, laidLooks := .later }
def NodesApartCardSaid : Prop := Claim7.holds Tryz.pinned (.plain (OpenSpec.ofChange nodesApartSpec)) nodesApartCard

/-- THE SECOND FORM's CARD OF 'haruspexlaw14.SemRaw'. -/
def semRawUptoCard : Claim7 := { stood := { row := semRawUptoRow, standIns := [], harness := (true, "f64dc83c4f3d3762ae7773426bff7c489557c68267acee9a5894cdb138ba3bd4"), looks := true }, kinds := [], alts := [], laidByText := true, laidKinds := [.data, .handle], laidTests := true, laidLooks := .later }
def SemRawUptoCardSaid : Prop := Claim7.holds Tryz.pinned (.plain (OpenSpec.upto semRawSpec)) semRawUptoCard

/-- THE SECOND FORM's CARD OF 'haruspexlaw14.SemMethod'. -/
def semMethodUptoCard : Claim7 := { stood := { row := semMethodUptoRow, standIns := [], harness := (true, "f64dc83c4f3d3762ae7773426bff7c489557c68267acee9a5894cdb138ba3bd4"), looks := true }, kinds := [], alts := [], laidByText := true, laidKinds := [.data, .handle], laidTests := true, laidLooks := .later }
def SemMethodUptoCardSaid : Prop := Claim7.holds Tryz.pinned (.plain (OpenSpec.upto semMethodSpec)) semMethodUptoCard

/-- THE SECOND FORM's CARD OF 'haruspexlaw15.TraceMore'. -/
def traceMoreUptoCard : Claim7 := { stood := { row := traceMoreUptoRow, standIns := [], harness := (true, "f64dc83c4f3d3762ae7773426bff7c489557c68267acee9a5894cdb138ba3bd4"), looks := true }, kinds := [], alts := [], laidByText := true, laidKinds := [.data, .handle], laidTests := true, laidLooks := .later }
def TraceMoreUptoCardSaid : Prop := Claim7.holds Tryz.pinned (.plain (OpenSpec.upto traceMoreSpec)) traceMoreUptoCard

/-- THE SECOND FORM's CARD OF 'haruspexlaw15.TraceFuel'. -/
def traceFuelUptoCard : Claim7 := { stood := { row := traceFuelUptoRow, standIns := [], harness := (true, "f64dc83c4f3d3762ae7773426bff7c489557c68267acee9a5894cdb138ba3bd4"), looks := true }, kinds := [], alts := [], laidByText := true, laidKinds := [.data, .handle], laidTests := true, laidLooks := .later }
def TraceFuelUptoCardSaid : Prop := Claim7.holds Tryz.pinned (.plain (OpenSpec.upto traceFuelSpec)) traceFuelUptoCard

/-- THE SECOND FORM's CARD OF 'haruspexlaw16.NodesAll'. -/
def nodesAllUptoCard : Claim7 := { stood := { row := nodesAllUptoRow, standIns := [], harness := (true, "f64dc83c4f3d3762ae7773426bff7c489557c68267acee9a5894cdb138ba3bd4"), looks := true }, kinds := [], alts := [], laidByText := true, laidKinds := [.data, .handle], laidTests := true, laidLooks := .later }
def NodesAllUptoCardSaid : Prop := Claim7.holds Tryz.pinned (.plain (OpenSpec.upto nodesAllSpec)) nodesAllUptoCard

/-- THE SECOND FORM's CARD OF 'haruspexlaw16.NodesNone'. -/
def nodesNoneUptoCard : Claim7 := { stood := { row := nodesNoneUptoRow, standIns := [], harness := (true, "f64dc83c4f3d3762ae7773426bff7c489557c68267acee9a5894cdb138ba3bd4"), looks := true }, kinds := [], alts := [], laidByText := true, laidKinds := [.data, .handle], laidTests := true, laidLooks := .later }
def NodesNoneUptoCardSaid : Prop := Claim7.holds Tryz.pinned (.plain (OpenSpec.upto nodesNoneSpec)) nodesNoneUptoCard

/-- THE SECOND FORM's CARD OF 'haruspexlaw16.NodesApart'. -/
def nodesApartUptoCard : Claim7 := { stood := { row := nodesApartUptoRow, standIns := [], harness := (true, "f64dc83c4f3d3762ae7773426bff7c489557c68267acee9a5894cdb138ba3bd4"), looks := true }, kinds := [], alts := [], laidByText := true, laidKinds := [.data, .handle], laidTests := true, laidLooks := .later }
def NodesApartUptoCardSaid : Prop := Claim7.holds Tryz.pinned (.plain (OpenSpec.upto nodesApartSpec)) nodesApartUptoCard
end Rows
end Go.Proofs.YthflgjkmbakedaaGreatDoor
