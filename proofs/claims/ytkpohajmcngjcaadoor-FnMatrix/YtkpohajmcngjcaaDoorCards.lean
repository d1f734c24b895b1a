/-
  DERIVED. GIVEN WITH THE SEED: THE CARDS: each row of YtkpohajmcngjcaaDoorRows.lean that lists a variable, with what it lists TIED to the program's text (the seventh form; the later family's looks); each row that meets fmt, with fmt's text TOLD by the authors' own Lean function (tested against real Go, not proved from fmt's source: count such statements apart). THE CARD IS WHAT COUNTS. Prove the row's statement (the work); the ties are given (YtkpohajmcngjcaaDoorTie.lean); close each card by the builder's one call (the guide's Derived/Test/ToyasCard.lean, 'card_holds'). Laid BY PROGRAM, IN A SANDBOX (cutbox-door.mjs). By AI agents, Wed Nov 11 2026. No macro, syntax, notation, axiom, sorry.
-/
import Derived.Test.YtkpohajmcngjcaaDoorRows
import GoSem.ClaimSeven
namespace Go.Proofs.YtkpohajmcngjcaaDoor
namespace Rows

/-- THE TIED CARD OF 'laws.FnExactSystemDigest'. -/
def fnExactSystemDigestCard : Claim7 := { stood := { row := fnExactSystemDigestRow, standIns := [], harness := (true, "1dccb3d9e1c9bc905f8cdeba8965d5fada0ad30a888b64159eaf6de45797b6f4"), looks := false }, kinds := [], alts := [], laidByText := true, laidKinds := [.data, .data], laidTests := true, laidLooks := .later }
def FnExactSystemDigestCardSaid : Prop := Claim7.holds Tryd.pinned (.plain (OpenSpec.ofChange fnExactSystemDigestSpec)) fnExactSystemDigestCard

/-- THE TIED CARD OF 'laws.FnMatrix'. -/
def fnMatrixCard : Claim7 := { stood := { row := fnMatrixRow, standIns := [], harness := (true, "1dccb3d9e1c9bc905f8cdeba8965d5fada0ad30a888b64159eaf6de45797b6f4"), looks := false }, kinds := [], alts := [], laidByText := true, laidKinds := [.data, .data], laidTests := true, laidLooks := .later }
def FnMatrixCardSaid : Prop := Claim7.holds Tryd.pinned (.plain (OpenSpec.ofChange fnMatrixSpec)) fnMatrixCard

/-- THE SECOND FORM's CARD OF 'laws.FnExactSystemDigest'. -/
def fnExactSystemDigestUptoCard : Claim7 := { stood := { row := fnExactSystemDigestUptoRow, standIns := [], harness := (true, "1dccb3d9e1c9bc905f8cdeba8965d5fada0ad30a888b64159eaf6de45797b6f4"), looks := false }, kinds := [], alts := [], laidByText := true, laidKinds := [.data, .data], laidTests := true, laidLooks := .later }
def FnExactSystemDigestUptoCardSaid : Prop := Claim7.holds Tryd.pinned (.plain (OpenSpec.upto fnExactSystemDigestSpec)) fnExactSystemDigestUptoCard

/-- THE SECOND FORM's CARD OF 'laws.FnMatrix'. -/
def fnMatrixUptoCard : Claim7 := { stood := { row := fnMatrixUptoRow, standIns := [], harness := (true, "1dccb3d9e1c9bc905f8cdeba8965d5fada0ad30a888b64159eaf6de45797b6f4"), looks := false }, kinds := [], alts := [], laidByText := true, laidKinds := [.data, .data], laidTests := true, laidLooks := .later }
def FnMatrixUptoCardSaid : Prop := Claim7.holds Tryd.pinned (.plain (OpenSpec.upto fnMatrixSpec)) fnMatrixUptoCard
end Rows
end Go.Proofs.YtkpohajmcngjcaaDoor
