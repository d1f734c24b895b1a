/-
  DERIVED. GIVEN WITH THE SEED: THE CARDS: each row of YtgimmmmiodlepaaDoorRows.lean that lists a variable, with what it lists TIED to the program's text (the seventh form; the later family's looks); each row that meets fmt, with fmt's text TOLD by the authors' own Lean function (tested against real Go, not proved from fmt's source: count such statements apart). THE CARD IS WHAT COUNTS. Prove the row's statement (the work); the ties are given (YtgimmmmiodlepaaDoorTie.lean); close each card by the builder's one call (the guide's Derived/Test/ToyasCard.lean, 'card_holds'). Laid BY PROGRAM, IN A SANDBOX (cutbox-door.mjs). By AI agents, Wed Nov 11 2026. No macro, syntax, notation, axiom, sorry.
-/
import Derived.Test.YtgimmmmiodlepaaDoorRows
import GoSem.ClaimSeven
namespace Go.Proofs.YtgimmmmiodlepaaDoor
namespace Rows

/-- THE TIED CARD OF 'laws.FnGates'. -/
def fnGatesCard : Claim7 := { stood := { row := fnGatesRow, standIns := [], harness := (true, "4b26fb8fae68aa8efb1dcf0a02e2bc1eb29ff9ae7bccd4eb19f2b10c6885a1de"), looks := true }, kinds := [], alts := [], laidByText := true, laidKinds := [.data, .data, .data, .data, .sentinel, .sentinel, .data, .pinned], laidTests := true, laidLooks := .later }
def FnGatesCardSaid : Prop := Claim7.holds Tryd.pinned (.plain (OpenSpec.ofChange fnGatesSpec)) fnGatesCard

/-- THE TIED CARD OF 'laws.FnExactCircuitOK'. -/
def fnExactCircuitOKCard : Claim7 := { stood := { row := fnExactCircuitOKRow, standIns := [], harness := (true, "4b26fb8fae68aa8efb1dcf0a02e2bc1eb29ff9ae7bccd4eb19f2b10c6885a1de"), looks := true }, kinds := [], alts := [], laidByText := true, laidKinds := [.data], laidTests := true, laidLooks := .later }
def FnExactCircuitOKCardSaid : Prop := Claim7.holds Tryd.pinned (.plain (OpenSpec.ofChange fnExactCircuitOKSpec)) fnExactCircuitOKCard

/-- THE TIED CARD OF 'laws.FnExactCountOf'. -/
def fnExactCountOfCard : Claim7 := { stood := { row := fnExactCountOfRow, standIns := [], harness := (true, "4b26fb8fae68aa8efb1dcf0a02e2bc1eb29ff9ae7bccd4eb19f2b10c6885a1de"), looks := true }, kinds := [], alts := [], laidByText := true, laidKinds := [.data], laidTests := true, laidLooks := .later }
def FnExactCountOfCardSaid : Prop := Claim7.holds Tryd.pinned (.plain (OpenSpec.ofChange fnExactCountOfSpec)) fnExactCountOfCard

/-- THE TIED CARD OF 'laws.FnExactRunCircuit'. -/
def fnExactRunCircuitCard : Claim7 := { stood := { row := fnExactRunCircuitRow, standIns := [], harness := (true, "4b26fb8fae68aa8efb1dcf0a02e2bc1eb29ff9ae7bccd4eb19f2b10c6885a1de"), looks := true }, kinds := [], alts := [], laidByText := true, laidKinds := [.data], laidTests := true, laidLooks := .later }
def FnExactRunCircuitCardSaid : Prop := Claim7.holds Tryd.pinned (.plain (OpenSpec.ofChange fnExactRunCircuitSpec)) fnExactRunCircuitCard

/-- THE SECOND FORM's CARD OF 'laws.FnGates'. -/
def fnGatesUptoCard : Claim7 := { stood := { row := fnGatesUptoRow, standIns := [], harness := (true, "4b26fb8fae68aa8efb1dcf0a02e2bc1eb29ff9ae7bccd4eb19f2b10c6885a1de"), looks := true }, kinds := [], alts := [], laidByText := true, laidKinds := [.data, .data, .data, .data, .sentinel, .sentinel, .data, .pinned], laidTests := true, laidLooks := .later }
def FnGatesUptoCardSaid : Prop := Claim7.holds Tryd.pinned (.plain (OpenSpec.upto fnGatesSpec)) fnGatesUptoCard

/-- THE SECOND FORM's CARD OF 'laws.FnExactCircuitOK'. -/
def fnExactCircuitOKUptoCard : Claim7 := { stood := { row := fnExactCircuitOKUptoRow, standIns := [], harness := (true, "4b26fb8fae68aa8efb1dcf0a02e2bc1eb29ff9ae7bccd4eb19f2b10c6885a1de"), looks := true }, kinds := [], alts := [], laidByText := true, laidKinds := [.data], laidTests := true, laidLooks := .later }
def FnExactCircuitOKUptoCardSaid : Prop := Claim7.holds Tryd.pinned (.plain (OpenSpec.upto fnExactCircuitOKSpec)) fnExactCircuitOKUptoCard

/-- THE SECOND FORM's CARD OF 'laws.FnExactCountOf'. -/
def fnExactCountOfUptoCard : Claim7 := { stood := { row := fnExactCountOfUptoRow, standIns := [], harness := (true, "4b26fb8fae68aa8efb1dcf0a02e2bc1eb29ff9ae7bccd4eb19f2b10c6885a1de"), looks := true }, kinds := [], alts := [], laidByText := true, laidKinds := [.data], laidTests := true, laidLooks := .later }
def FnExactCountOfUptoCardSaid : Prop := Claim7.holds Tryd.pinned (.plain (OpenSpec.upto fnExactCountOfSpec)) fnExactCountOfUptoCard

/-- THE SECOND FORM's CARD OF 'laws.FnExactRunCircuit'. -/
def fnExactRunCircuitUptoCard : Claim7 := { stood := { row := fnExactRunCircuitUptoRow, standIns := [], harness := (true, "4b26fb8fae68aa8efb1dcf0a02e2bc1eb29ff9ae7bccd4eb19f2b10c6885a1de"), looks := true }, kinds := [], alts := [], laidByText := true, laidKinds := [.data], laidTests := true, laidLooks := .later }
def FnExactRunCircuitUptoCardSaid : Prop := Claim7.holds Tryd.pinned (.plain (OpenSpec.upto fnExactRunCircuitSpec)) fnExactRunCircuitUptoCard
end Rows
end Go.Proofs.YtgimmmmiodlepaaDoor
