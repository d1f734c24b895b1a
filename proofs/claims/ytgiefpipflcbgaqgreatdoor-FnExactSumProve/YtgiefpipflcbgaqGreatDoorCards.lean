/-
  DERIVED. GIVEN WITH THE SEED: THE CARDS: each row of YtgiefpipflcbgaqGreatDoorRows.lean that lists a variable, with what it lists TIED to the program's text (the seventh form; the later family's looks); each row that meets fmt, with fmt's text TOLD by the authors' own Lean function (tested against real Go, not proved from fmt's source: count such statements apart). THE CARD IS WHAT COUNTS. Prove the row's statement (the work); the ties are given (YtgiefpipflcbgaqGreatDoorTie.lean); close each card by the builder's one call (the guide's Derived/Test/ToyasCard.lean, 'card_holds'). Laid BY PROGRAM, IN A SANDBOX (cutbox-door.mjs). By AI agents, Wed Nov 11 2026. No macro, syntax, notation, axiom, sorry.
-/
import Derived.Test.YtgiefpipflcbgaqGreatDoorRows
import GoSem.ClaimSeven
namespace Go.Proofs.YtgiefpipflcbgaqGreatDoor
namespace Rows

/-- THE TIED CARD OF 'laws.FnExactSumProve'. -/
def fnExactSumProveCard : Claim7 := { stood := { row := fnExactSumProveRow, standIns := [], harness := (true, "03165c0db3581f8273ee8e29c974b428fc1cd032ef80a856c68f9b252eae3acf"), looks := true }, kinds := [], alts := [], laidByText := true, laidKinds := [.data, .data], laidTests := true, laidLooks := .later }
def FnExactSumProveCardSaid : Prop := Claim7.holds Tryz.pinned (.plain (OpenSpec.ofChange fnExactSumProveSpec)) fnExactSumProveCard

/-- THE TIED CARD OF 'laws.FnExactSumVerify'. -/
def fnExactSumVerifyCard : Claim7 := { stood := { row := fnExactSumVerifyRow, standIns := [], harness := (true, "03165c0db3581f8273ee8e29c974b428fc1cd032ef80a856c68f9b252eae3acf"), looks := true }, kinds := [], alts := [], laidByText := true, laidKinds := [.data, .data], laidTests := true, laidLooks := .later }
def FnExactSumVerifyCardSaid : Prop := Claim7.holds Tryz.pinned (.plain (OpenSpec.ofChange fnExactSumVerifySpec)) fnExactSumVerifyCard

/-- THE SECOND FORM's CARD OF 'laws.FnExactSumProve'. -/
def fnExactSumProveUptoCard : Claim7 := { stood := { row := fnExactSumProveUptoRow, standIns := [], harness := (true, "03165c0db3581f8273ee8e29c974b428fc1cd032ef80a856c68f9b252eae3acf"), looks := true }, kinds := [], alts := [], laidByText := true, laidKinds := [.data, .data], laidTests := true, laidLooks := .later }
def FnExactSumProveUptoCardSaid : Prop := Claim7.holds Tryz.pinned (.plain (OpenSpec.upto fnExactSumProveSpec)) fnExactSumProveUptoCard

/-- THE SECOND FORM's CARD OF 'laws.FnExactSumVerify'. -/
def fnExactSumVerifyUptoCard : Claim7 := { stood := { row := fnExactSumVerifyUptoRow, standIns := [], harness := (true, "03165c0db3581f8273ee8e29c974b428fc1cd032ef80a856c68f9b252eae3acf"), looks := true }, kinds := [], alts := [], laidByText := true, laidKinds := [.data, .data], laidTests := true, laidLooks := .later }
def FnExactSumVerifyUptoCardSaid : Prop := Claim7.holds Tryz.pinned (.plain (OpenSpec.upto fnExactSumVerifySpec)) fnExactSumVerifyUptoCard
end Rows
end Go.Proofs.YtgiefpipflcbgaqGreatDoor
