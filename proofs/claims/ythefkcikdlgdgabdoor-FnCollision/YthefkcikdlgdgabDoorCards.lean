/-
  DERIVED. GIVEN WITH THE SEED: THE CARDS: each row of YthefkcikdlgdgabDoorRows.lean that lists a variable, with what it lists TIED to the program's text (the seventh form; the later family's looks); each row that meets fmt, with fmt's text TOLD by the authors' own Lean function (tested against real Go, not proved from fmt's source: count such statements apart). THE CARD IS WHAT COUNTS. Prove the row's statement (the work); the ties are given (YthefkcikdlgdgabDoorTie.lean); close each card by the builder's one call (the guide's Derived/Test/ToyasCard.lean, 'card_holds'). Laid BY PROGRAM, IN A SANDBOX (cutbox-door.mjs). By AI agents, Wed Nov 11 2026. No macro, syntax, notation, axiom, sorry.
-/
import Derived.Test.YthefkcikdlgdgabDoorRows
import GoSem.ClaimSeven
namespace Go.Proofs.YthefkcikdlgdgabDoor
namespace Rows

/-- THE TIED CARD OF 'laws.FnKeccak'. -/
def fnKeccakCard : Claim7 := { stood := { row := fnKeccakRow, standIns := [], harness := (true, "02216740c5b04a3fb1785212d06c0c24450f9d5ca2caf0c257a2bc3f3c05a336"), looks := false }, kinds := [], alts := [], laidByText := true, laidKinds := [.data, .data], laidTests := true, laidLooks := .later }
def FnKeccakCardSaid : Prop := Claim7.holds Tryd.pinned (.plain (OpenSpec.ofChange fnKeccakSpec)) fnKeccakCard

/-- THE TIED CARD OF 'laws.FnMerkle'. -/
def fnMerkleCard : Claim7 := { stood := { row := fnMerkleRow, standIns := [], harness := (true, "02216740c5b04a3fb1785212d06c0c24450f9d5ca2caf0c257a2bc3f3c05a336"), looks := false }, kinds := [], alts := [], laidByText := true, laidKinds := [.data, .data], laidTests := true, laidLooks := .later }
def FnMerkleCardSaid : Prop := Claim7.holds Tryd.pinned (.plain (OpenSpec.ofChange fnMerkleSpec)) fnMerkleCard

/-- THE TIED CARD OF 'laws.FnCollision'. -/
def fnCollisionCard : Claim7 := { stood := { row := fnCollisionRow, standIns := [], harness := (true, "02216740c5b04a3fb1785212d06c0c24450f9d5ca2caf0c257a2bc3f3c05a336"), looks := false }, kinds := [], alts := [], laidByText := true, laidKinds := [.data, .data], laidTests := true, laidLooks := .later }
def FnCollisionCardSaid : Prop := Claim7.holds Tryd.pinned (.plain (OpenSpec.ofChange fnCollisionSpec)) fnCollisionCard

/-- THE SECOND FORM's CARD OF 'laws.FnKeccak'. -/
def fnKeccakUptoCard : Claim7 := { stood := { row := fnKeccakUptoRow, standIns := [], harness := (true, "02216740c5b04a3fb1785212d06c0c24450f9d5ca2caf0c257a2bc3f3c05a336"), looks := false }, kinds := [], alts := [], laidByText := true, laidKinds := [.data, .data], laidTests := true, laidLooks := .later }
def FnKeccakUptoCardSaid : Prop := Claim7.holds Tryd.pinned (.plain (OpenSpec.upto fnKeccakSpec)) fnKeccakUptoCard

/-- THE SECOND FORM's CARD OF 'laws.FnMerkle'. -/
def fnMerkleUptoCard : Claim7 := { stood := { row := fnMerkleUptoRow, standIns := [], harness := (true, "02216740c5b04a3fb1785212d06c0c24450f9d5ca2caf0c257a2bc3f3c05a336"), looks := false }, kinds := [], alts := [], laidByText := true, laidKinds := [.data, .data], laidTests := true, laidLooks := .later }
def FnMerkleUptoCardSaid : Prop := Claim7.holds Tryd.pinned (.plain (OpenSpec.upto fnMerkleSpec)) fnMerkleUptoCard

/-- THE SECOND FORM's CARD OF 'laws.FnCollision'. -/
def fnCollisionUptoCard : Claim7 := { stood := { row := fnCollisionUptoRow, standIns := [], harness := (true, "02216740c5b04a3fb1785212d06c0c24450f9d5ca2caf0c257a2bc3f3c05a336"), looks := false }, kinds := [], alts := [], laidByText := true, laidKinds := [.data, .data], laidTests := true, laidLooks := .later }
def FnCollisionUptoCardSaid : Prop := Claim7.holds Tryd.pinned (.plain (OpenSpec.upto fnCollisionSpec)) fnCollisionUptoCard
end Rows
end Go.Proofs.YthefkcikdlgdgabDoor
