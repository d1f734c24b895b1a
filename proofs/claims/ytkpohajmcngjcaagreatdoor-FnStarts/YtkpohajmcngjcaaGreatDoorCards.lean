/-
  DERIVED. GIVEN WITH THE SEED: THE CARDS: each row of YtkpohajmcngjcaaGreatDoorRows.lean that lists a variable, with what it lists TIED to the program's text (the seventh form; the later family's looks); each row that meets fmt, with fmt's text TOLD by the authors' own Lean function (tested against real Go, not proved from fmt's source: count such statements apart). THE CARD IS WHAT COUNTS. Prove the row's statement (the work); the ties are given (YtkpohajmcngjcaaGreatDoorTie.lean); close each card by the builder's one call (the guide's Derived/Test/ToyasCard.lean, 'card_holds'). Laid BY PROGRAM, IN A SANDBOX (cutbox-door.mjs). By AI agents, Wed Nov 11 2026. No macro, syntax, notation, axiom, sorry.
-/
import Derived.Test.YtkpohajmcngjcaaGreatDoorRows
import GoSem.ClaimSeven
namespace Go.Proofs.YtkpohajmcngjcaaGreatDoor
namespace Rows

/-- THE TIED CARD OF 'laws.FnExactStart'. -/
def fnExactStartCard : Claim7 := { stood := { row := fnExactStartRow, standIns := [], harness := (true, "449b377e2d9f7efa28b76a79fe7158669c3b184b85d886eed6d28b93bd7fea58"), looks := false }, kinds := [], alts := [], laidByText := true, laidKinds := [.data, .data], laidTests := true, laidLooks := .later }
def FnExactStartCardSaid : Prop := Claim7.holds Tryz.pinned (.plain (OpenSpec.ofChange fnExactStartSpec)) fnExactStartCard

/-- THE TIED CARD OF 'laws.FnStarts'. -/
def fnStartsCard : Claim7 := { stood := { row := fnStartsRow, standIns := [], harness := (true, "449b377e2d9f7efa28b76a79fe7158669c3b184b85d886eed6d28b93bd7fea58"), looks := false }, kinds := [], alts := [], laidByText := true, laidKinds := [.data, .data], laidTests := true, laidLooks := .later }
def FnStartsCardSaid : Prop := Claim7.holds Tryz.pinned (.plain (OpenSpec.ofChange fnStartsSpec)) fnStartsCard

/-- THE SECOND FORM's CARD OF 'laws.FnExactStart'. -/
def fnExactStartUptoCard : Claim7 := { stood := { row := fnExactStartUptoRow, standIns := [], harness := (true, "449b377e2d9f7efa28b76a79fe7158669c3b184b85d886eed6d28b93bd7fea58"), looks := false }, kinds := [], alts := [], laidByText := true, laidKinds := [.data, .data], laidTests := true, laidLooks := .later }
def FnExactStartUptoCardSaid : Prop := Claim7.holds Tryz.pinned (.plain (OpenSpec.upto fnExactStartSpec)) fnExactStartUptoCard

/-- THE SECOND FORM's CARD OF 'laws.FnStarts'. -/
def fnStartsUptoCard : Claim7 := { stood := { row := fnStartsUptoRow, standIns := [], harness := (true, "449b377e2d9f7efa28b76a79fe7158669c3b184b85d886eed6d28b93bd7fea58"), looks := false }, kinds := [], alts := [], laidByText := true, laidKinds := [.data, .data], laidTests := true, laidLooks := .later }
def FnStartsUptoCardSaid : Prop := Claim7.holds Tryz.pinned (.plain (OpenSpec.upto fnStartsSpec)) fnStartsUptoCard
end Rows
end Go.Proofs.YtkpohajmcngjcaaGreatDoor
