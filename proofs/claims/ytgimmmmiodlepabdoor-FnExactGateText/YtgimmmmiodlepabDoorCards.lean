/-
  DERIVED. GIVEN WITH THE SEED: THE CARDS: each row of YtgimmmmiodlepabDoorRows.lean that lists a variable, with what it lists TIED to the program's text (the seventh form; the later family's looks); each row that meets fmt, with fmt's text TOLD by the authors' own Lean function (tested against real Go, not proved from fmt's source: count such statements apart). THE CARD IS WHAT COUNTS. Prove the row's statement (the work); the ties are given (YtgimmmmiodlepabDoorTie.lean); close each card by the builder's one call (the guide's Derived/Test/ToyasCard.lean, 'card_holds'). Laid BY PROGRAM, IN A SANDBOX (cutbox-door.mjs). By AI agents, Wed Nov 11 2026. No macro, syntax, notation, axiom, sorry.
-/
import Derived.Test.YtgimmmmiodlepabDoorRows
import GoSem.ClaimSeven
namespace Go.Proofs.YtgimmmmiodlepabDoor
namespace Rows

/-- THE TIED CARD OF 'laws.FnExactSystemOf'. -/
def fnExactSystemOfCard : Claim7 := { stood := { row := fnExactSystemOfRow, standIns := [], harness := (true, "12e5ff72d0e4704e3dcc2874a682277e9e83f7654d9b7c31f796f512a607b985"), looks := true }, kinds := [], alts := [], laidByText := true, laidKinds := [.data], laidTests := true, laidLooks := .later }
def FnExactSystemOfCardSaid : Prop := Claim7.holds Tryd.pinned (.plain (OpenSpec.ofChange fnExactSystemOfSpec)) fnExactSystemOfCard

/-- THE TIED CARD OF 'laws.FnExactWitnessOf'. -/
def fnExactWitnessOfCard : Claim7 := { stood := { row := fnExactWitnessOfRow, standIns := [], harness := (true, "12e5ff72d0e4704e3dcc2874a682277e9e83f7654d9b7c31f796f512a607b985"), looks := true }, kinds := [], alts := [], laidByText := true, laidKinds := [.data], laidTests := true, laidLooks := .later }
def FnExactWitnessOfCardSaid : Prop := Claim7.holds Tryd.pinned (.plain (OpenSpec.ofChange fnExactWitnessOfSpec)) fnExactWitnessOfCard

/-- THE TIED CARD OF 'laws.FnExactGateText'. -/
def fnExactGateTextCard : Claim7 := { stood := { row := fnExactGateTextRow, standIns := [], harness := (true, "12e5ff72d0e4704e3dcc2874a682277e9e83f7654d9b7c31f796f512a607b985"), looks := true }, kinds := [], alts := [], laidByText := true, laidKinds := [.data, .data, .data, .data], laidTests := true, laidLooks := .later }
def FnExactGateTextCardSaid : Prop := Claim7.holds Tryd.pinned (.plain (OpenSpec.ofChange fnExactGateTextSpec)) fnExactGateTextCard

/-- THE TIED CARD OF 'laws.FnExactReadGate'. -/
def fnExactReadGateCard : Claim7 := { stood := { row := fnExactReadGateRow, standIns := [], harness := (true, "12e5ff72d0e4704e3dcc2874a682277e9e83f7654d9b7c31f796f512a607b985"), looks := true }, kinds := [], alts := [], laidByText := true, laidKinds := [.data, .data, .data, .data, .sentinel, .sentinel, .data, .pinned], laidTests := true, laidLooks := .later }
def FnExactReadGateCardSaid : Prop := Claim7.holds Tryd.pinned (.plain (OpenSpec.ofChange fnExactReadGateSpec)) fnExactReadGateCard

/-- THE SECOND FORM's CARD OF 'laws.FnExactSystemOf'. -/
def fnExactSystemOfUptoCard : Claim7 := { stood := { row := fnExactSystemOfUptoRow, standIns := [], harness := (true, "12e5ff72d0e4704e3dcc2874a682277e9e83f7654d9b7c31f796f512a607b985"), looks := true }, kinds := [], alts := [], laidByText := true, laidKinds := [.data], laidTests := true, laidLooks := .later }
def FnExactSystemOfUptoCardSaid : Prop := Claim7.holds Tryd.pinned (.plain (OpenSpec.upto fnExactSystemOfSpec)) fnExactSystemOfUptoCard

/-- THE SECOND FORM's CARD OF 'laws.FnExactWitnessOf'. -/
def fnExactWitnessOfUptoCard : Claim7 := { stood := { row := fnExactWitnessOfUptoRow, standIns := [], harness := (true, "12e5ff72d0e4704e3dcc2874a682277e9e83f7654d9b7c31f796f512a607b985"), looks := true }, kinds := [], alts := [], laidByText := true, laidKinds := [.data], laidTests := true, laidLooks := .later }
def FnExactWitnessOfUptoCardSaid : Prop := Claim7.holds Tryd.pinned (.plain (OpenSpec.upto fnExactWitnessOfSpec)) fnExactWitnessOfUptoCard

/-- THE SECOND FORM's CARD OF 'laws.FnExactGateText'. -/
def fnExactGateTextUptoCard : Claim7 := { stood := { row := fnExactGateTextUptoRow, standIns := [], harness := (true, "12e5ff72d0e4704e3dcc2874a682277e9e83f7654d9b7c31f796f512a607b985"), looks := true }, kinds := [], alts := [], laidByText := true, laidKinds := [.data, .data, .data, .data], laidTests := true, laidLooks := .later }
def FnExactGateTextUptoCardSaid : Prop := Claim7.holds Tryd.pinned (.plain (OpenSpec.upto fnExactGateTextSpec)) fnExactGateTextUptoCard

/-- THE SECOND FORM's CARD OF 'laws.FnExactReadGate'. -/
def fnExactReadGateUptoCard : Claim7 := { stood := { row := fnExactReadGateUptoRow, standIns := [], harness := (true, "12e5ff72d0e4704e3dcc2874a682277e9e83f7654d9b7c31f796f512a607b985"), looks := true }, kinds := [], alts := [], laidByText := true, laidKinds := [.data, .data, .data, .data, .sentinel, .sentinel, .data, .pinned], laidTests := true, laidLooks := .later }
def FnExactReadGateUptoCardSaid : Prop := Claim7.holds Tryd.pinned (.plain (OpenSpec.upto fnExactReadGateSpec)) fnExactReadGateUptoCard
end Rows
end Go.Proofs.YtgimmmmiodlepabDoor
