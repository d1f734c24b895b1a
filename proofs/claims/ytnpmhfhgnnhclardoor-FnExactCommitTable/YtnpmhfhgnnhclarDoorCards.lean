/-
  DERIVED. GIVEN WITH THE SEED: THE CARDS: each row of YtnpmhfhgnnhclarDoorRows.lean that lists a variable, with what it lists TIED to the program's text (the seventh form; the later family's looks); each row that meets fmt, with fmt's text TOLD by the authors' own Lean function (tested against real Go, not proved from fmt's source: count such statements apart). THE CARD IS WHAT COUNTS. Prove the row's statement (the work); the ties are given (YtnpmhfhgnnhclarDoorTie.lean); close each card by the builder's one call (the guide's Derived/Test/ToyasCard.lean, 'card_holds'). Laid BY PROGRAM, IN A SANDBOX (cutbox-door.mjs). By AI agents, Wed Nov 11 2026. No macro, syntax, notation, axiom, sorry.
-/
import Derived.Test.YtnpmhfhgnnhclarDoorRows
import GoSem.ClaimSeven
namespace Go.Proofs.YtnpmhfhgnnhclarDoor
namespace Rows

/-- THE TIED CARD OF 'laws.FnExactCommitTable'. -/
def fnExactCommitTableCard : Claim7 := { stood := { row := fnExactCommitTableRow, standIns := [], harness := (true, "dea2386418c1e90d97f949396134319dd994792e552b14fa06fec4aec7d7fa93"), looks := false }, kinds := [], alts := [], laidByText := true, laidKinds := [.data, .data], laidTests := true, laidLooks := .later }
def FnExactCommitTableCardSaid : Prop := Claim7.holds Tryd.pinned (.plain (OpenSpec.ofChange fnExactCommitTableSpec)) fnExactCommitTableCard

/-- THE SECOND FORM's CARD OF 'laws.FnExactCommitTable'. -/
def fnExactCommitTableUptoCard : Claim7 := { stood := { row := fnExactCommitTableUptoRow, standIns := [], harness := (true, "dea2386418c1e90d97f949396134319dd994792e552b14fa06fec4aec7d7fa93"), looks := false }, kinds := [], alts := [], laidByText := true, laidKinds := [.data, .data], laidTests := true, laidLooks := .later }
def FnExactCommitTableUptoCardSaid : Prop := Claim7.holds Tryd.pinned (.plain (OpenSpec.upto fnExactCommitTableSpec)) fnExactCommitTableUptoCard
end Rows
end Go.Proofs.YtnpmhfhgnnhclarDoor
