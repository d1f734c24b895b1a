/-
  DERIVED. GIVEN WITH THE SEED: THE CARDS: each row of YtmnakafplpmphanDoorRows.lean that lists a variable, with what it lists TIED to the program's text (the seventh form; the later family's looks); each row that meets fmt, with fmt's text TOLD by the authors' own Lean function (tested against real Go, not proved from fmt's source: count such statements apart). THE CARD IS WHAT COUNTS. Prove the row's statement (the work); the ties are given (YtmnakafplpmphanDoorTie.lean); close each card by the builder's one call (the guide's Derived/Test/ToyasCard.lean, 'card_holds'). Laid BY PROGRAM, IN A SANDBOX (cutbox-door.mjs). By AI agents, Wed Nov 11 2026. No macro, syntax, notation, axiom, sorry.
-/
import Derived.Test.YtmnakafplpmphanDoorRows
import GoSem.ClaimSeven
namespace Go.Proofs.YtmnakafplpmphanDoor
namespace Rows

/-- THE TIED CARD OF 'laws.FnExactGrindNonce'. -/
def fnExactGrindNonceCard : Claim7 := { stood := { row := fnExactGrindNonceRow, standIns := [], harness := (true, "e118cf1dcea8792f622b1888262e7963ed4d5b477f12a67d3c9ce2060fb1ad72"), looks := false }, kinds := [], alts := [], laidByText := true, laidKinds := [.data, .data], laidTests := true, laidLooks := .later }
def FnExactGrindNonceCardSaid : Prop := Claim7.holds Tryd.pinned (.plain (OpenSpec.ofChange fnExactGrindNonceSpec)) fnExactGrindNonceCard

/-- THE TIED CARD OF 'laws.FnExactCheckNonce'. -/
def fnExactCheckNonceCard : Claim7 := { stood := { row := fnExactCheckNonceRow, standIns := [], harness := (true, "e118cf1dcea8792f622b1888262e7963ed4d5b477f12a67d3c9ce2060fb1ad72"), looks := false }, kinds := [], alts := [], laidByText := true, laidKinds := [.data, .data], laidTests := true, laidLooks := .later }
def FnExactCheckNonceCardSaid : Prop := Claim7.holds Tryd.pinned (.plain (OpenSpec.ofChange fnExactCheckNonceSpec)) fnExactCheckNonceCard

/-- THE SECOND FORM's CARD OF 'laws.FnExactGrindNonce'. -/
def fnExactGrindNonceUptoCard : Claim7 := { stood := { row := fnExactGrindNonceUptoRow, standIns := [], harness := (true, "e118cf1dcea8792f622b1888262e7963ed4d5b477f12a67d3c9ce2060fb1ad72"), looks := false }, kinds := [], alts := [], laidByText := true, laidKinds := [.data, .data], laidTests := true, laidLooks := .later }
def FnExactGrindNonceUptoCardSaid : Prop := Claim7.holds Tryd.pinned (.plain (OpenSpec.upto fnExactGrindNonceSpec)) fnExactGrindNonceUptoCard

/-- THE SECOND FORM's CARD OF 'laws.FnExactCheckNonce'. -/
def fnExactCheckNonceUptoCard : Claim7 := { stood := { row := fnExactCheckNonceUptoRow, standIns := [], harness := (true, "e118cf1dcea8792f622b1888262e7963ed4d5b477f12a67d3c9ce2060fb1ad72"), looks := false }, kinds := [], alts := [], laidByText := true, laidKinds := [.data, .data], laidTests := true, laidLooks := .later }
def FnExactCheckNonceUptoCardSaid : Prop := Claim7.holds Tryd.pinned (.plain (OpenSpec.upto fnExactCheckNonceSpec)) fnExactCheckNonceUptoCard
end Rows
end Go.Proofs.YtmnakafplpmphanDoor
