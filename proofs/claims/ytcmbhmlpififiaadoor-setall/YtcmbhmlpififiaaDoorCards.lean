/-
  DERIVED. GIVEN WITH THE SEED: THE CARDS: each row of YtcmbhmlpififiaaDoorRows.lean that lists a variable, with what it lists TIED to the program's text (the seventh form; the later family's looks); each row that meets fmt, with fmt's text TOLD by the authors' own Lean function (tested against real Go, not proved from fmt's source: count such statements apart). THE CARD IS WHAT COUNTS. Prove the row's statement (the work); the ties are given (YtcmbhmlpififiaaDoorTie.lean); close each card by the builder's one call (the guide's Derived/Test/ToyasCard.lean, 'card_holds'). Laid BY PROGRAM, IN A SANDBOX (cutbox-door.mjs). By AI agents, Wed Nov 11 2026. No macro, syntax, notation, axiom, sorry.
-/
import Derived.Test.YtcmbhmlpififiaaDoorRows
import GoSem.ClaimSeven
namespace Go.Proofs.YtcmbhmlpififiaaDoor
namespace Rows

/-- THE TIED CARD OF 'haruspexlaw1.SetAll'. -/
def setAllCard : Claim7 := { stood := { row := setAllRow, standIns := [], harness := (true, "125a85609c29b38e3341f1b6e617dd88eda4ad40d9b0013d978866353ce65423"), looks := false }, kinds := [], alts := [], laidByText := true, laidKinds := [.data], laidTests := true, laidLooks := .later }
def SetAllCardSaid : Prop := Claim7.holds Tryd.pinned (.plain (OpenSpec.ofChange setAllSpec)) setAllCard

/-- THE TIED CARD OF 'haruspexlaw1.SetPairs'. -/
def setPairsCard : Claim7 := { stood := { row := setPairsRow, standIns := [], harness := (true, "125a85609c29b38e3341f1b6e617dd88eda4ad40d9b0013d978866353ce65423"), looks := false }, kinds := [], alts := [], laidByText := true, laidKinds := [.data], laidTests := true, laidLooks := .later }
def SetPairsCardSaid : Prop := Claim7.holds Tryd.pinned (.plain (OpenSpec.ofChange setPairsSpec)) setPairsCard

/-- THE TIED CARD OF 'haruspexlaw1.SetNone'. -/
def setNoneCard : Claim7 := { stood := { row := setNoneRow, standIns := [], harness := (true, "125a85609c29b38e3341f1b6e617dd88eda4ad40d9b0013d978866353ce65423"), looks := false }, kinds := [], alts := [], laidByText := true, laidKinds := [.data], laidTests := true, laidLooks := .later }
def SetNoneCardSaid : Prop := Claim7.holds Tryd.pinned (.plain (OpenSpec.ofChange setNoneSpec)) setNoneCard

/-- THE TIED CARD OF 'haruspexlaw1.SetEnds'. -/
def setEndsCard : Claim7 := { stood := { row := setEndsRow, standIns := [], harness := (true, "125a85609c29b38e3341f1b6e617dd88eda4ad40d9b0013d978866353ce65423"), looks := false }, kinds := [], alts := [], laidByText := true, laidKinds := [.data], laidTests := true, laidLooks := .later }
def SetEndsCardSaid : Prop := Claim7.holds Tryd.pinned (.plain (OpenSpec.ofChange setEndsSpec)) setEndsCard

/-- THE TIED CARD OF 'haruspexlaw1.SetOrder'. -/
def setOrderCard : Claim7 := { stood := { row := setOrderRow, standIns := [], harness := (true, "125a85609c29b38e3341f1b6e617dd88eda4ad40d9b0013d978866353ce65423"), looks := false }, kinds := [], alts := [], laidByText := true, laidKinds := [.data], laidTests := true, laidLooks := .later }
def SetOrderCardSaid : Prop := Claim7.holds Tryd.pinned (.plain (OpenSpec.ofChange setOrderSpec)) setOrderCard

/-- THE TIED CARD OF 'haruspexlaw1.SetLaws'. -/
def setLawsCard : Claim7 := { stood := { row := setLawsRow, standIns := [], harness := (true, "125a85609c29b38e3341f1b6e617dd88eda4ad40d9b0013d978866353ce65423"), looks := false }, kinds := [], alts := [], laidByText := true, laidKinds := [.data], laidTests := true, laidLooks := .later }
def SetLawsCardSaid : Prop := Claim7.holds Tryd.pinned (.plain (OpenSpec.ofChange setLawsSpec)) setLawsCard

/-- THE SECOND FORM's CARD OF 'haruspexlaw1.SetAll'. -/
def setAllUptoCard : Claim7 := { stood := { row := setAllUptoRow, standIns := [], harness := (true, "125a85609c29b38e3341f1b6e617dd88eda4ad40d9b0013d978866353ce65423"), looks := false }, kinds := [], alts := [], laidByText := true, laidKinds := [.data], laidTests := true, laidLooks := .later }
def SetAllUptoCardSaid : Prop := Claim7.holds Tryd.pinned (.plain (OpenSpec.upto setAllSpec)) setAllUptoCard

/-- THE SECOND FORM's CARD OF 'haruspexlaw1.SetPairs'. -/
def setPairsUptoCard : Claim7 := { stood := { row := setPairsUptoRow, standIns := [], harness := (true, "125a85609c29b38e3341f1b6e617dd88eda4ad40d9b0013d978866353ce65423"), looks := false }, kinds := [], alts := [], laidByText := true, laidKinds := [.data], laidTests := true, laidLooks := .later }
def SetPairsUptoCardSaid : Prop := Claim7.holds Tryd.pinned (.plain (OpenSpec.upto setPairsSpec)) setPairsUptoCard

/-- THE SECOND FORM's CARD OF 'haruspexlaw1.SetNone'. -/
def setNoneUptoCard : Claim7 := { stood := { row := setNoneUptoRow, standIns := [], harness := (true, "125a85609c29b38e3341f1b6e617dd88eda4ad40d9b0013d978866353ce65423"), looks := false }, kinds := [], alts := [], laidByText := true, laidKinds := [.data], laidTests := true, laidLooks := .later }
def SetNoneUptoCardSaid : Prop := Claim7.holds Tryd.pinned (.plain (OpenSpec.upto setNoneSpec)) setNoneUptoCard

/-- THE SECOND FORM's CARD OF 'haruspexlaw1.SetEnds'. -/
def setEndsUptoCard : Claim7 := { stood := { row := setEndsUptoRow, standIns := [], harness := (true, "125a85609c29b38e3341f1b6e617dd88eda4ad40d9b0013d978866353ce65423"), looks := false }, kinds := [], alts := [], laidByText := true, laidKinds := [.data], laidTests := true, laidLooks := .later }
def SetEndsUptoCardSaid : Prop := Claim7.holds Tryd.pinned (.plain (OpenSpec.upto setEndsSpec)) setEndsUptoCard

/-- THE SECOND FORM's CARD OF 'haruspexlaw1.SetOrder'. -/
def setOrderUptoCard : Claim7 := { stood := { row := setOrderUptoRow, standIns := [], harness := (true, "125a85609c29b38e3341f1b6e617dd88eda4ad40d9b0013d978866353ce65423"), looks := false }, kinds := [], alts := [], laidByText := true, laidKinds := [.data], laidTests := true, laidLooks := .later }
def SetOrderUptoCardSaid : Prop := Claim7.holds Tryd.pinned (.plain (OpenSpec.upto setOrderSpec)) setOrderUptoCard

/-- THE SECOND FORM's CARD OF 'haruspexlaw1.SetLaws'. -/
def setLawsUptoCard : Claim7 := { stood := { row := setLawsUptoRow, standIns := [], harness := (true, "125a85609c29b38e3341f1b6e617dd88eda4ad40d9b0013d978866353ce65423"), looks := false }, kinds := [], alts := [], laidByText := true, laidKinds := [.data], laidTests := true, laidLooks := .later }
def SetLawsUptoCardSaid : Prop := Claim7.holds Tryd.pinned (.plain (OpenSpec.upto setLawsSpec)) setLawsUptoCard
end Rows
end Go.Proofs.YtcmbhmlpififiaaDoor
