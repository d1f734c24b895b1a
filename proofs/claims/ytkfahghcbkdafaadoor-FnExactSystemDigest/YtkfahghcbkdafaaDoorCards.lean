/-
  DERIVED. GIVEN WITH THE SEED: THE CARDS: each row of YtkfahghcbkdafaaDoorRows.lean that lists a variable, with what it lists TIED to the program's text (the seventh form; the later family's looks); each row that meets fmt, with fmt's text TOLD by the authors' own Lean function (tested against real Go, not proved from fmt's source: count such statements apart). THE CARD IS WHAT COUNTS. Prove the row's statement (the work); the ties are given (YtkfahghcbkdafaaDoorTie.lean); close each card by the builder's one call (the guide's Derived/Test/ToyasCard.lean, 'card_holds'). Laid BY PROGRAM, IN A SANDBOX (cutbox-door.mjs). By AI agents, Wed Nov 11 2026. No macro, syntax, notation, axiom, sorry.
-/
import Derived.Test.YtkfahghcbkdafaaDoorRows
import GoSem.ClaimSeven
namespace Go.Proofs.YtkfahghcbkdafaaDoor
namespace Rows

/-- THE TIED CARD OF 'laws.FnExactSystemDigest'. -/
def fnExactSystemDigestCard : Claim7 := { stood := { row := fnExactSystemDigestRow, standIns := [], harness := (true, "0a4136f17253a5336d5086b55786873fe0b4d55083e39c124222a4ee2efc5751"), looks := false }, kinds := [], alts := [], laidByText := true, laidKinds := [.data, .data], laidTests := true, laidLooks := .later }
def FnExactSystemDigestCardSaid : Prop := Claim7.holds Tryd.pinned (.plain (OpenSpec.ofChange fnExactSystemDigestSpec)) fnExactSystemDigestCard

/-- THE SECOND FORM's CARD OF 'laws.FnExactSystemDigest'. -/
def fnExactSystemDigestUptoCard : Claim7 := { stood := { row := fnExactSystemDigestUptoRow, standIns := [], harness := (true, "0a4136f17253a5336d5086b55786873fe0b4d55083e39c124222a4ee2efc5751"), looks := false }, kinds := [], alts := [], laidByText := true, laidKinds := [.data, .data], laidTests := true, laidLooks := .later }
def FnExactSystemDigestUptoCardSaid : Prop := Claim7.holds Tryd.pinned (.plain (OpenSpec.upto fnExactSystemDigestSpec)) fnExactSystemDigestUptoCard
end Rows
end Go.Proofs.YtkfahghcbkdafaaDoor
