/-
  DERIVED. GIVEN WITH THE SEED: THE CARDS: each row of YtencdbocifpekabDoorRows.lean that lists a variable, with what it lists TIED to the program's text (the seventh form; the later family's looks); each row that meets fmt, with fmt's text TOLD by the authors' own Lean function (tested against real Go, not proved from fmt's source: count such statements apart). THE CARD IS WHAT COUNTS. Prove the row's statement (the work); the ties are given (YtencdbocifpekabDoorTie.lean); close each card by the builder's one call (the guide's Derived/Test/ToyasCard.lean, 'card_holds'). Laid BY PROGRAM, IN A SANDBOX (cutbox-door.mjs). By AI agents, Wed Nov 11 2026. No macro, syntax, notation, axiom, sorry.
-/
import Derived.Test.YtencdbocifpekabDoorRows
import GoSem.ClaimSeven
namespace Go.Proofs.YtencdbocifpekabDoor
namespace Rows

/-- THE TIED CARD OF 'laws.FnKeccak'. -/
def fnKeccakCard : Claim7 := { stood := { row := fnKeccakRow, standIns := [], harness := (true, "e615b147c2c8ac0f63f00cdef71a3b3f2f9e376c8b7a47da9904dc47887076d1"), looks := false }, kinds := [], alts := [], laidByText := true, laidKinds := [.data, .data], laidTests := true, laidLooks := .later }
def FnKeccakCardSaid : Prop := Claim7.holds Tryd.pinned (.plain (OpenSpec.ofChange fnKeccakSpec)) fnKeccakCard

/-- THE SECOND FORM's CARD OF 'laws.FnKeccak'. -/
def fnKeccakUptoCard : Claim7 := { stood := { row := fnKeccakUptoRow, standIns := [], harness := (true, "e615b147c2c8ac0f63f00cdef71a3b3f2f9e376c8b7a47da9904dc47887076d1"), looks := false }, kinds := [], alts := [], laidByText := true, laidKinds := [.data, .data], laidTests := true, laidLooks := .later }
def FnKeccakUptoCardSaid : Prop := Claim7.holds Tryd.pinned (.plain (OpenSpec.upto fnKeccakSpec)) fnKeccakUptoCard
end Rows
end Go.Proofs.YtencdbocifpekabDoor
