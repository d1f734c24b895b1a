/-
  DERIVED. GIVEN WITH THE SEED: THE CARDS: each row of YtabioonijjibnabDoorRows.lean that lists a variable, with what it lists TIED to the program's text (the seventh form; the later family's looks); each row that meets fmt, with fmt's text TOLD by the authors' own Lean function (tested against real Go, not proved from fmt's source: count such statements apart). THE CARD IS WHAT COUNTS. Prove the row's statement (the work); the ties are given (YtabioonijjibnabDoorTie.lean); close each card by the builder's one call (the guide's Derived/Test/ToyasCard.lean, 'card_holds'). Laid BY PROGRAM, IN A SANDBOX (cutbox-door.mjs). By AI agents, Wed Nov 11 2026. No macro, syntax, notation, axiom, sorry.
-/
import Derived.Test.YtabioonijjibnabDoorRows
import GoSem.ClaimSeven
namespace Go.Proofs.YtabioonijjibnabDoor
namespace Rows

/-- THE TIED CARD OF 'laws.FnKeccak'. -/
def fnKeccakCard : Claim7 := { stood := { row := fnKeccakRow, standIns := [], harness := (true, "c24cb0232e60e1a8a76317293c30589ea0e541e71016fe0c5e4fe425172630fd"), looks := true }, kinds := [], alts := [], laidByText := true, laidKinds := [.data, .data], laidTests := true, laidLooks := .later }
def FnKeccakCardSaid : Prop := Claim7.holds Tryd.pinned (.plain (OpenSpec.ofChange fnKeccakSpec)) fnKeccakCard

/-- THE TIED CARD OF 'laws.FnMerkle'. -/
def fnMerkleCard : Claim7 := { stood := { row := fnMerkleRow, standIns := [], harness := (true, "c24cb0232e60e1a8a76317293c30589ea0e541e71016fe0c5e4fe425172630fd"), looks := true }, kinds := [], alts := [], laidByText := true, laidKinds := [.data, .data], laidTests := true, laidLooks := .later }
def FnMerkleCardSaid : Prop := Claim7.holds Tryd.pinned (.plain (OpenSpec.ofChange fnMerkleSpec)) fnMerkleCard

/-- THE TIED CARD OF 'laws.FnCollision'. -/
def fnCollisionCard : Claim7 := { stood := { row := fnCollisionRow, standIns := [], harness := (true, "c24cb0232e60e1a8a76317293c30589ea0e541e71016fe0c5e4fe425172630fd"), looks := true }, kinds := [], alts := [], laidByText := true, laidKinds := [.data, .data], laidTests := true, laidLooks := .later }
def FnCollisionCardSaid : Prop := Claim7.holds Tryd.pinned (.plain (OpenSpec.ofChange fnCollisionSpec)) fnCollisionCard

/-- THE TIED CARD OF 'laws.FnSource'. -/
def fnSourceCard : Claim7 := { stood := { row := fnSourceRow, standIns := [], harness := (true, "c24cb0232e60e1a8a76317293c30589ea0e541e71016fe0c5e4fe425172630fd"), looks := true }, kinds := [], alts := [], laidByText := true, laidKinds := [.data, .data], laidTests := true, laidLooks := .later }
def FnSourceCardSaid : Prop := Claim7.holds Tryd.pinned (.plain (OpenSpec.ofChange fnSourceSpec)) fnSourceCard

/-- THE TIED CARD OF 'laws.FnScript'. -/
def fnScriptCard : Claim7 := { stood := { row := fnScriptRow, standIns := [], harness := (true, "c24cb0232e60e1a8a76317293c30589ea0e541e71016fe0c5e4fe425172630fd"), looks := true }, kinds := [], alts := [], laidByText := true, laidKinds := [.data, .data], laidTests := true, laidLooks := .later }
def FnScriptCardSaid : Prop := Claim7.holds Tryd.pinned (.plain (OpenSpec.ofChange fnScriptSpec)) fnScriptCard

/-- THE TIED CARD OF 'laws.FnGrind'. -/
def fnGrindCard : Claim7 := { stood := { row := fnGrindRow, standIns := [], harness := (true, "c24cb0232e60e1a8a76317293c30589ea0e541e71016fe0c5e4fe425172630fd"), looks := true }, kinds := [], alts := [], laidByText := true, laidKinds := [.data, .data], laidTests := true, laidLooks := .later }
def FnGrindCardSaid : Prop := Claim7.holds Tryd.pinned (.plain (OpenSpec.ofChange fnGrindSpec)) fnGrindCard

/-- THE SECOND FORM's CARD OF 'laws.FnKeccak'. -/
def fnKeccakUptoCard : Claim7 := { stood := { row := fnKeccakUptoRow, standIns := [], harness := (true, "c24cb0232e60e1a8a76317293c30589ea0e541e71016fe0c5e4fe425172630fd"), looks := true }, kinds := [], alts := [], laidByText := true, laidKinds := [.data, .data], laidTests := true, laidLooks := .later }
def FnKeccakUptoCardSaid : Prop := Claim7.holds Tryd.pinned (.plain (OpenSpec.upto fnKeccakSpec)) fnKeccakUptoCard

/-- THE SECOND FORM's CARD OF 'laws.FnMerkle'. -/
def fnMerkleUptoCard : Claim7 := { stood := { row := fnMerkleUptoRow, standIns := [], harness := (true, "c24cb0232e60e1a8a76317293c30589ea0e541e71016fe0c5e4fe425172630fd"), looks := true }, kinds := [], alts := [], laidByText := true, laidKinds := [.data, .data], laidTests := true, laidLooks := .later }
def FnMerkleUptoCardSaid : Prop := Claim7.holds Tryd.pinned (.plain (OpenSpec.upto fnMerkleSpec)) fnMerkleUptoCard

/-- THE SECOND FORM's CARD OF 'laws.FnCollision'. -/
def fnCollisionUptoCard : Claim7 := { stood := { row := fnCollisionUptoRow, standIns := [], harness := (true, "c24cb0232e60e1a8a76317293c30589ea0e541e71016fe0c5e4fe425172630fd"), looks := true }, kinds := [], alts := [], laidByText := true, laidKinds := [.data, .data], laidTests := true, laidLooks := .later }
def FnCollisionUptoCardSaid : Prop := Claim7.holds Tryd.pinned (.plain (OpenSpec.upto fnCollisionSpec)) fnCollisionUptoCard

/-- THE SECOND FORM's CARD OF 'laws.FnSource'. -/
def fnSourceUptoCard : Claim7 := { stood := { row := fnSourceUptoRow, standIns := [], harness := (true, "c24cb0232e60e1a8a76317293c30589ea0e541e71016fe0c5e4fe425172630fd"), looks := true }, kinds := [], alts := [], laidByText := true, laidKinds := [.data, .data], laidTests := true, laidLooks := .later }
def FnSourceUptoCardSaid : Prop := Claim7.holds Tryd.pinned (.plain (OpenSpec.upto fnSourceSpec)) fnSourceUptoCard

/-- THE SECOND FORM's CARD OF 'laws.FnScript'. -/
def fnScriptUptoCard : Claim7 := { stood := { row := fnScriptUptoRow, standIns := [], harness := (true, "c24cb0232e60e1a8a76317293c30589ea0e541e71016fe0c5e4fe425172630fd"), looks := true }, kinds := [], alts := [], laidByText := true, laidKinds := [.data, .data], laidTests := true, laidLooks := .later }
def FnScriptUptoCardSaid : Prop := Claim7.holds Tryd.pinned (.plain (OpenSpec.upto fnScriptSpec)) fnScriptUptoCard

/-- THE SECOND FORM's CARD OF 'laws.FnGrind'. -/
def fnGrindUptoCard : Claim7 := { stood := { row := fnGrindUptoRow, standIns := [], harness := (true, "c24cb0232e60e1a8a76317293c30589ea0e541e71016fe0c5e4fe425172630fd"), looks := true }, kinds := [], alts := [], laidByText := true, laidKinds := [.data, .data], laidTests := true, laidLooks := .later }
def FnGrindUptoCardSaid : Prop := Claim7.holds Tryd.pinned (.plain (OpenSpec.upto fnGrindSpec)) fnGrindUptoCard
end Rows
end Go.Proofs.YtabioonijjibnabDoor
