/-
  DERIVED. GIVEN WITH THE SEED: THE CARDS: each row of YtcmbhmlpififiabDoorRows.lean that lists a variable, with what it lists TIED to the program's text (the seventh form; the later family's looks); each row that meets fmt, with fmt's text TOLD by the authors' own Lean function (tested against real Go, not proved from fmt's source: count such statements apart). THE CARD IS WHAT COUNTS. Prove the row's statement (the work); the ties are given (YtcmbhmlpififiabDoorTie.lean); close each card by the builder's one call (the guide's Derived/Test/ToyasCard.lean, 'card_holds'). Laid BY PROGRAM, IN A SANDBOX (cutbox-door.mjs). By AI agents, Wed Nov 11 2026. No macro, syntax, notation, axiom, sorry.
-/
import Derived.Test.YtcmbhmlpififiabDoorRows
import GoSem.ClaimSeven
namespace Go.Proofs.YtcmbhmlpififiabDoor
namespace Rows

/-- THE TIED CARD OF 'haruspexlaw1.SetWalk'. -/
def setWalkCard : Claim7 := { stood := { row := setWalkRow, standIns := [], harness := (true, "84a3139c25c2daa02a9572cf617a16ec68eaf9c1c4c57b0f9e7de29cc2ced7b3"), looks := false }, kinds := [], alts := [], laidByText := true, laidKinds := [.data], laidTests := true, laidLooks := .later }
def SetWalkCardSaid : Prop := Claim7.holds Tryd.pinned (.plain (OpenSpec.ofChange setWalkSpec)) setWalkCard

/-- THE TIED CARD OF 'haruspexlaw1.SetMany'. -/
def setManyCard : Claim7 := { stood := { row := setManyRow, standIns := [], harness := (true, "84a3139c25c2daa02a9572cf617a16ec68eaf9c1c4c57b0f9e7de29cc2ced7b3"), looks := false }, kinds := [], alts := [], laidByText := true, laidKinds := [.data], laidTests := true, laidLooks := .later }
def SetManyCardSaid : Prop := Claim7.holds Tryd.pinned (.plain (OpenSpec.ofChange setManySpec)) setManyCard

/-- THE SECOND FORM's CARD OF 'haruspexlaw1.SetWalk'. -/
def setWalkUptoCard : Claim7 := { stood := { row := setWalkUptoRow, standIns := [], harness := (true, "84a3139c25c2daa02a9572cf617a16ec68eaf9c1c4c57b0f9e7de29cc2ced7b3"), looks := false }, kinds := [], alts := [], laidByText := true, laidKinds := [.data], laidTests := true, laidLooks := .later }
def SetWalkUptoCardSaid : Prop := Claim7.holds Tryd.pinned (.plain (OpenSpec.upto setWalkSpec)) setWalkUptoCard

/-- THE SECOND FORM's CARD OF 'haruspexlaw1.SetMany'. -/
def setManyUptoCard : Claim7 := { stood := { row := setManyUptoRow, standIns := [], harness := (true, "84a3139c25c2daa02a9572cf617a16ec68eaf9c1c4c57b0f9e7de29cc2ced7b3"), looks := false }, kinds := [], alts := [], laidByText := true, laidKinds := [.data], laidTests := true, laidLooks := .later }
def SetManyUptoCardSaid : Prop := Claim7.holds Tryd.pinned (.plain (OpenSpec.upto setManySpec)) setManyUptoCard
end Rows
end Go.Proofs.YtcmbhmlpififiabDoor
