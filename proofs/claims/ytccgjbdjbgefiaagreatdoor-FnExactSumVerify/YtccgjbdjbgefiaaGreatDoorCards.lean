/-
  DERIVED. GIVEN WITH THE SEED: THE CARDS: each row of YtccgjbdjbgefiaaGreatDoorRows.lean that lists a variable, with what it lists TIED to the program's text (the seventh form; the later family's looks); each row that meets fmt, with fmt's text TOLD by the authors' own Lean function (tested against real Go, not proved from fmt's source: count such statements apart). THE CARD IS WHAT COUNTS. Prove the row's statement (the work); the ties are given (YtccgjbdjbgefiaaGreatDoorTie.lean); close each card by the builder's one call (the guide's Derived/Test/ToyasCard.lean, 'card_holds'). Laid BY PROGRAM, IN A SANDBOX (cutbox-door.mjs). By AI agents, Wed Nov 11 2026. No macro, syntax, notation, axiom, sorry.
-/
import Derived.Test.YtccgjbdjbgefiaaGreatDoorRows
import GoSem.ClaimSeven
namespace Go.Proofs.YtccgjbdjbgefiaaGreatDoor
namespace Rows

/-- THE TIED CARD OF 'laws.FnExactSumVerify'. -/
def fnExactSumVerifyCard : Claim7 := { stood := { row := fnExactSumVerifyRow, standIns := [], harness := (true, "a2ca592274881562cec3d7981df57228de85075f1d1f2954958b5089e9c32f68"), looks := true }, kinds := [], alts := [], laidByText := true, laidKinds := [.data, .data], laidTests := true, laidLooks := .later }
def FnExactSumVerifyCardSaid : Prop := Claim7.holds Tryz.pinned (.plain (OpenSpec.ofChange fnExactSumVerifySpec)) fnExactSumVerifyCard

/-- THE SECOND FORM's CARD OF 'laws.FnExactSumVerify'. -/
def fnExactSumVerifyUptoCard : Claim7 := { stood := { row := fnExactSumVerifyUptoRow, standIns := [], harness := (true, "a2ca592274881562cec3d7981df57228de85075f1d1f2954958b5089e9c32f68"), looks := true }, kinds := [], alts := [], laidByText := true, laidKinds := [.data, .data], laidTests := true, laidLooks := .later }
def FnExactSumVerifyUptoCardSaid : Prop := Claim7.holds Tryz.pinned (.plain (OpenSpec.upto fnExactSumVerifySpec)) fnExactSumVerifyUptoCard
end Rows
end Go.Proofs.YtccgjbdjbgefiaaGreatDoor
