/-
  DERIVED. GIVEN WITH THE SEED: THE CARDS: each row of YtgiefpipflcbgadGreatDoorRows.lean that lists a variable, with what it lists TIED to the program's text (the seventh form; the later family's looks); each row that meets fmt, with fmt's text TOLD by the authors' own Lean function (tested against real Go, not proved from fmt's source: count such statements apart). THE CARD IS WHAT COUNTS. Prove the row's statement (the work); the ties are given (YtgiefpipflcbgadGreatDoorTie.lean); close each card by the builder's one call (the guide's Derived/Test/ToyasCard.lean, 'card_holds'). Laid BY PROGRAM, IN A SANDBOX (cutbox-door.mjs). By AI agents, Wed Nov 11 2026. No macro, syntax, notation, axiom, sorry.
-/
import Derived.Test.YtgiefpipflcbgadGreatDoorRows
import GoSem.ClaimSeven
namespace Go.Proofs.YtgiefpipflcbgadGreatDoor
namespace Rows

/-- THE TIED CARD OF 'laws.FnSums'. -/
def fnSumsCard : Claim7 := { stood := { row := fnSumsRow, standIns := [], harness := (true, "12af41e8bc2a90772b1f983709f5229e48feaffdb24949ac12c48a9ecb7d77be"), looks := true }, kinds := [], alts := [], laidByText := true, laidKinds := [.data, .data], laidTests := true, laidLooks := .later }
def FnSumsCardSaid : Prop := Claim7.holds Tryz.pinned (.plain (OpenSpec.ofChange fnSumsSpec)) fnSumsCard

/-- THE TIED CARD OF 'laws.FnSumLies'. -/
def fnSumLiesCard : Claim7 := { stood := { row := fnSumLiesRow, standIns := [], harness := (true, "12af41e8bc2a90772b1f983709f5229e48feaffdb24949ac12c48a9ecb7d77be"), looks := true }, kinds := [], alts := [], laidByText := true, laidKinds := [.data, .data], laidTests := true, laidLooks := .later }
def FnSumLiesCardSaid : Prop := Claim7.holds Tryz.pinned (.plain (OpenSpec.ofChange fnSumLiesSpec)) fnSumLiesCard

/-- THE SECOND FORM's CARD OF 'laws.FnSums'. -/
def fnSumsUptoCard : Claim7 := { stood := { row := fnSumsUptoRow, standIns := [], harness := (true, "12af41e8bc2a90772b1f983709f5229e48feaffdb24949ac12c48a9ecb7d77be"), looks := true }, kinds := [], alts := [], laidByText := true, laidKinds := [.data, .data], laidTests := true, laidLooks := .later }
def FnSumsUptoCardSaid : Prop := Claim7.holds Tryz.pinned (.plain (OpenSpec.upto fnSumsSpec)) fnSumsUptoCard

/-- THE SECOND FORM's CARD OF 'laws.FnSumLies'. -/
def fnSumLiesUptoCard : Claim7 := { stood := { row := fnSumLiesUptoRow, standIns := [], harness := (true, "12af41e8bc2a90772b1f983709f5229e48feaffdb24949ac12c48a9ecb7d77be"), looks := true }, kinds := [], alts := [], laidByText := true, laidKinds := [.data, .data], laidTests := true, laidLooks := .later }
def FnSumLiesUptoCardSaid : Prop := Claim7.holds Tryz.pinned (.plain (OpenSpec.upto fnSumLiesSpec)) fnSumLiesUptoCard
end Rows
end Go.Proofs.YtgiefpipflcbgadGreatDoor
