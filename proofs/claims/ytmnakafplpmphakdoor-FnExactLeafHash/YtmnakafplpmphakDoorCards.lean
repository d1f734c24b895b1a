/-
  DERIVED. GIVEN WITH THE SEED: THE CARDS: each row of YtmnakafplpmphakDoorRows.lean that lists a variable, with what it lists TIED to the program's text (the seventh form; the later family's looks); each row that meets fmt, with fmt's text TOLD by the authors' own Lean function (tested against real Go, not proved from fmt's source: count such statements apart). THE CARD IS WHAT COUNTS. Prove the row's statement (the work); the ties are given (YtmnakafplpmphakDoorTie.lean); close each card by the builder's one call (the guide's Derived/Test/ToyasCard.lean, 'card_holds'). Laid BY PROGRAM, IN A SANDBOX (cutbox-door.mjs). By AI agents, Wed Nov 11 2026. No macro, syntax, notation, axiom, sorry.
-/
import Derived.Test.YtmnakafplpmphakDoorRows
import GoSem.ClaimSeven
namespace Go.Proofs.YtmnakafplpmphakDoor
namespace Rows

/-- THE TIED CARD OF 'laws.FnExactPermute'. -/
def fnExactPermuteCard : Claim7 := { stood := { row := fnExactPermuteRow, standIns := [], harness := (true, "4bc3fb2e51a2a05eda56c3697ab876676170e01f3edffcc35fa9f2da1e7cc2cc"), looks := false }, kinds := [], alts := [], laidByText := true, laidKinds := [.data, .data], laidTests := true, laidLooks := .later }
def FnExactPermuteCardSaid : Prop := Claim7.holds Tryd.pinned (.plain (OpenSpec.ofChange fnExactPermuteSpec)) fnExactPermuteCard

/-- THE TIED CARD OF 'laws.FnExactKeccak256'. -/
def fnExactKeccak256Card : Claim7 := { stood := { row := fnExactKeccak256Row, standIns := [], harness := (true, "4bc3fb2e51a2a05eda56c3697ab876676170e01f3edffcc35fa9f2da1e7cc2cc"), looks := false }, kinds := [], alts := [], laidByText := true, laidKinds := [.data, .data], laidTests := true, laidLooks := .later }
def FnExactKeccak256CardSaid : Prop := Claim7.holds Tryd.pinned (.plain (OpenSpec.ofChange fnExactKeccak256Spec)) fnExactKeccak256Card

/-- THE TIED CARD OF 'laws.FnExactLeafHash'. -/
def fnExactLeafHashCard : Claim7 := { stood := { row := fnExactLeafHashRow, standIns := [], harness := (true, "4bc3fb2e51a2a05eda56c3697ab876676170e01f3edffcc35fa9f2da1e7cc2cc"), looks := false }, kinds := [], alts := [], laidByText := true, laidKinds := [.data, .data], laidTests := true, laidLooks := .later }
def FnExactLeafHashCardSaid : Prop := Claim7.holds Tryd.pinned (.plain (OpenSpec.ofChange fnExactLeafHashSpec)) fnExactLeafHashCard

/-- THE SECOND FORM's CARD OF 'laws.FnExactPermute'. -/
def fnExactPermuteUptoCard : Claim7 := { stood := { row := fnExactPermuteUptoRow, standIns := [], harness := (true, "4bc3fb2e51a2a05eda56c3697ab876676170e01f3edffcc35fa9f2da1e7cc2cc"), looks := false }, kinds := [], alts := [], laidByText := true, laidKinds := [.data, .data], laidTests := true, laidLooks := .later }
def FnExactPermuteUptoCardSaid : Prop := Claim7.holds Tryd.pinned (.plain (OpenSpec.upto fnExactPermuteSpec)) fnExactPermuteUptoCard

/-- THE SECOND FORM's CARD OF 'laws.FnExactKeccak256'. -/
def fnExactKeccak256UptoCard : Claim7 := { stood := { row := fnExactKeccak256UptoRow, standIns := [], harness := (true, "4bc3fb2e51a2a05eda56c3697ab876676170e01f3edffcc35fa9f2da1e7cc2cc"), looks := false }, kinds := [], alts := [], laidByText := true, laidKinds := [.data, .data], laidTests := true, laidLooks := .later }
def FnExactKeccak256UptoCardSaid : Prop := Claim7.holds Tryd.pinned (.plain (OpenSpec.upto fnExactKeccak256Spec)) fnExactKeccak256UptoCard

/-- THE SECOND FORM's CARD OF 'laws.FnExactLeafHash'. -/
def fnExactLeafHashUptoCard : Claim7 := { stood := { row := fnExactLeafHashUptoRow, standIns := [], harness := (true, "4bc3fb2e51a2a05eda56c3697ab876676170e01f3edffcc35fa9f2da1e7cc2cc"), looks := false }, kinds := [], alts := [], laidByText := true, laidKinds := [.data, .data], laidTests := true, laidLooks := .later }
def FnExactLeafHashUptoCardSaid : Prop := Claim7.holds Tryd.pinned (.plain (OpenSpec.upto fnExactLeafHashSpec)) fnExactLeafHashUptoCard
end Rows
end Go.Proofs.YtmnakafplpmphakDoor
