/-
  DERIVED. GIVEN WITH THE SEED: THE CARDS: each row of YtfcbcbmoebhfhaaDoorRows.lean that lists a variable, with what it lists TIED to the program's text (the seventh form; the later family's looks); each row that meets fmt, with fmt's text TOLD by the authors' own Lean function (tested against real Go, not proved from fmt's source: count such statements apart). THE CARD IS WHAT COUNTS. Prove the row's statement (the work); the ties are given (YtfcbcbmoebhfhaaDoorTie.lean); close each card by the builder's one call (the guide's Derived/Test/ToyasCard.lean, 'card_holds'). Laid BY PROGRAM, IN A SANDBOX (cutbox-door.mjs). By AI agents, Wed Nov 11 2026. No macro, syntax, notation, axiom, sorry.
-/
import Derived.Test.YtfcbcbmoebhfhaaDoorRows
import GoSem.ClaimSeven
namespace Go.Proofs.YtfcbcbmoebhfhaaDoor
namespace Rows

/-- THE TIED CARD OF 'laws.FnMatrix'. -/
def fnMatrixCard : Claim7 := { stood := { row := fnMatrixRow, standIns := [], harness := (true, "0c49c447997c5ab3737120c930cf483bad1bc4a3a5986f1d333994d465ad0b46"), looks := false }, kinds := [], alts := [], laidByText := true, laidKinds := [.data, .data], laidTests := true, laidLooks := .later }
def FnMatrixCardSaid : Prop := Claim7.holds Tryd.pinned (.plain (OpenSpec.ofChange fnMatrixSpec)) fnMatrixCard

/-- THE TIED CARD OF 'laws.FnExactSystemOf'. -/
def fnExactSystemOfCard : Claim7 := { stood := { row := fnExactSystemOfRow, standIns := [], harness := (true, "0c49c447997c5ab3737120c930cf483bad1bc4a3a5986f1d333994d465ad0b46"), looks := false }, kinds := [], alts := [], laidByText := true, laidKinds := [.data], laidTests := true, laidLooks := .later }
def FnExactSystemOfCardSaid : Prop := Claim7.holds Tryd.pinned (.plain (OpenSpec.ofChange fnExactSystemOfSpec)) fnExactSystemOfCard

/-- THE SECOND FORM's CARD OF 'laws.FnMatrix'. -/
def fnMatrixUptoCard : Claim7 := { stood := { row := fnMatrixUptoRow, standIns := [], harness := (true, "0c49c447997c5ab3737120c930cf483bad1bc4a3a5986f1d333994d465ad0b46"), looks := false }, kinds := [], alts := [], laidByText := true, laidKinds := [.data, .data], laidTests := true, laidLooks := .later }
def FnMatrixUptoCardSaid : Prop := Claim7.holds Tryd.pinned (.plain (OpenSpec.upto fnMatrixSpec)) fnMatrixUptoCard

/-- THE SECOND FORM's CARD OF 'laws.FnExactSystemOf'. -/
def fnExactSystemOfUptoCard : Claim7 := { stood := { row := fnExactSystemOfUptoRow, standIns := [], harness := (true, "0c49c447997c5ab3737120c930cf483bad1bc4a3a5986f1d333994d465ad0b46"), looks := false }, kinds := [], alts := [], laidByText := true, laidKinds := [.data], laidTests := true, laidLooks := .later }
def FnExactSystemOfUptoCardSaid : Prop := Claim7.holds Tryd.pinned (.plain (OpenSpec.upto fnExactSystemOfSpec)) fnExactSystemOfUptoCard
end Rows
end Go.Proofs.YtfcbcbmoebhfhaaDoor
