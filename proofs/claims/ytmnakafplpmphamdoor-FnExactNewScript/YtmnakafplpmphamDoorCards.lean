/-
  DERIVED. GIVEN WITH THE SEED: THE CARDS: each row of YtmnakafplpmphamDoorRows.lean that lists a variable, with what it lists TIED to the program's text (the seventh form; the later family's looks); each row that meets fmt, with fmt's text TOLD by the authors' own Lean function (tested against real Go, not proved from fmt's source: count such statements apart). THE CARD IS WHAT COUNTS. Prove the row's statement (the work); the ties are given (YtmnakafplpmphamDoorTie.lean); close each card by the builder's one call (the guide's Derived/Test/ToyasCard.lean, 'card_holds'). Laid BY PROGRAM, IN A SANDBOX (cutbox-door.mjs). By AI agents, Wed Nov 11 2026. No macro, syntax, notation, axiom, sorry.
-/
import Derived.Test.YtmnakafplpmphamDoorRows
import GoSem.ClaimSeven
namespace Go.Proofs.YtmnakafplpmphamDoor
namespace Rows

/-- THE TIED CARD OF 'laws.FnExactNewScript'. -/
def fnExactNewScriptCard : Claim7 := { stood := { row := fnExactNewScriptRow, standIns := [], harness := (true, "542d1e274ec98e5f753c8d22463f1c398e83f932b0ca37217b06d407461a6cf4"), looks := false }, kinds := [], alts := [], laidByText := true, laidKinds := [.data, .data], laidTests := true, laidLooks := .later }
def FnExactNewScriptCardSaid : Prop := Claim7.holds Tryd.pinned (.plain (OpenSpec.ofChange fnExactNewScriptSpec)) fnExactNewScriptCard

/-- THE TIED CARD OF 'laws.FnExactAbsorbText'. -/
def fnExactAbsorbTextCard : Claim7 := { stood := { row := fnExactAbsorbTextRow, standIns := [], harness := (true, "542d1e274ec98e5f753c8d22463f1c398e83f932b0ca37217b06d407461a6cf4"), looks := false }, kinds := [], alts := [], laidByText := true, laidKinds := [.data, .data], laidTests := true, laidLooks := .later }
def FnExactAbsorbTextCardSaid : Prop := Claim7.holds Tryd.pinned (.plain (OpenSpec.ofChange fnExactAbsorbTextSpec)) fnExactAbsorbTextCard

/-- THE TIED CARD OF 'laws.FnExactAbsorbExts'. -/
def fnExactAbsorbExtsCard : Claim7 := { stood := { row := fnExactAbsorbExtsRow, standIns := [], harness := (true, "542d1e274ec98e5f753c8d22463f1c398e83f932b0ca37217b06d407461a6cf4"), looks := false }, kinds := [], alts := [], laidByText := true, laidKinds := [.data, .data], laidTests := true, laidLooks := .later }
def FnExactAbsorbExtsCardSaid : Prop := Claim7.holds Tryd.pinned (.plain (OpenSpec.ofChange fnExactAbsorbExtsSpec)) fnExactAbsorbExtsCard

/-- THE SECOND FORM's CARD OF 'laws.FnExactNewScript'. -/
def fnExactNewScriptUptoCard : Claim7 := { stood := { row := fnExactNewScriptUptoRow, standIns := [], harness := (true, "542d1e274ec98e5f753c8d22463f1c398e83f932b0ca37217b06d407461a6cf4"), looks := false }, kinds := [], alts := [], laidByText := true, laidKinds := [.data, .data], laidTests := true, laidLooks := .later }
def FnExactNewScriptUptoCardSaid : Prop := Claim7.holds Tryd.pinned (.plain (OpenSpec.upto fnExactNewScriptSpec)) fnExactNewScriptUptoCard

/-- THE SECOND FORM's CARD OF 'laws.FnExactAbsorbText'. -/
def fnExactAbsorbTextUptoCard : Claim7 := { stood := { row := fnExactAbsorbTextUptoRow, standIns := [], harness := (true, "542d1e274ec98e5f753c8d22463f1c398e83f932b0ca37217b06d407461a6cf4"), looks := false }, kinds := [], alts := [], laidByText := true, laidKinds := [.data, .data], laidTests := true, laidLooks := .later }
def FnExactAbsorbTextUptoCardSaid : Prop := Claim7.holds Tryd.pinned (.plain (OpenSpec.upto fnExactAbsorbTextSpec)) fnExactAbsorbTextUptoCard

/-- THE SECOND FORM's CARD OF 'laws.FnExactAbsorbExts'. -/
def fnExactAbsorbExtsUptoCard : Claim7 := { stood := { row := fnExactAbsorbExtsUptoRow, standIns := [], harness := (true, "542d1e274ec98e5f753c8d22463f1c398e83f932b0ca37217b06d407461a6cf4"), looks := false }, kinds := [], alts := [], laidByText := true, laidKinds := [.data, .data], laidTests := true, laidLooks := .later }
def FnExactAbsorbExtsUptoCardSaid : Prop := Claim7.holds Tryd.pinned (.plain (OpenSpec.upto fnExactAbsorbExtsSpec)) fnExactAbsorbExtsUptoCard
end Rows
end Go.Proofs.YtmnakafplpmphamDoor
