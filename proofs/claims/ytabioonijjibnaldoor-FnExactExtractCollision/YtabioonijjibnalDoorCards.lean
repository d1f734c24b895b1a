/-
  DERIVED. GIVEN WITH THE SEED: THE CARDS: each row of YtabioonijjibnalDoorRows.lean that lists a variable, with what it lists TIED to the program's text (the seventh form; the later family's looks); each row that meets fmt, with fmt's text TOLD by the authors' own Lean function (tested against real Go, not proved from fmt's source: count such statements apart). THE CARD IS WHAT COUNTS. Prove the row's statement (the work); the ties are given (YtabioonijjibnalDoorTie.lean); close each card by the builder's one call (the guide's Derived/Test/ToyasCard.lean, 'card_holds'). Laid BY PROGRAM, IN A SANDBOX (cutbox-door.mjs). By AI agents, Wed Nov 11 2026. No macro, syntax, notation, axiom, sorry.
-/
import Derived.Test.YtabioonijjibnalDoorRows
import GoSem.ClaimSeven
namespace Go.Proofs.YtabioonijjibnalDoor
namespace Rows

/-- THE TIED CARD OF 'laws.FnExactNodeHash'. -/
def fnExactNodeHashCard : Claim7 := { stood := { row := fnExactNodeHashRow, standIns := [], harness := (true, "1aed61b4a6f901a5edae7e6d853cf3fcd766b0c407302c0a550521a76a7568f8"), looks := false }, kinds := [], alts := [], laidByText := true, laidKinds := [.data, .data], laidTests := true, laidLooks := .later }
def FnExactNodeHashCardSaid : Prop := Claim7.holds Tryd.pinned (.plain (OpenSpec.ofChange fnExactNodeHashSpec)) fnExactNodeHashCard

/-- THE TIED CARD OF 'laws.FnExactMerkleRoot'. -/
def fnExactMerkleRootCard : Claim7 := { stood := { row := fnExactMerkleRootRow, standIns := [], harness := (true, "1aed61b4a6f901a5edae7e6d853cf3fcd766b0c407302c0a550521a76a7568f8"), looks := false }, kinds := [], alts := [], laidByText := true, laidKinds := [.data, .data], laidTests := true, laidLooks := .later }
def FnExactMerkleRootCardSaid : Prop := Claim7.holds Tryd.pinned (.plain (OpenSpec.ofChange fnExactMerkleRootSpec)) fnExactMerkleRootCard

/-- THE TIED CARD OF 'laws.FnExactMerklePath'. -/
def fnExactMerklePathCard : Claim7 := { stood := { row := fnExactMerklePathRow, standIns := [], harness := (true, "1aed61b4a6f901a5edae7e6d853cf3fcd766b0c407302c0a550521a76a7568f8"), looks := false }, kinds := [], alts := [], laidByText := true, laidKinds := [.data, .data], laidTests := true, laidLooks := .later }
def FnExactMerklePathCardSaid : Prop := Claim7.holds Tryd.pinned (.plain (OpenSpec.ofChange fnExactMerklePathSpec)) fnExactMerklePathCard

/-- THE TIED CARD OF 'laws.FnExactCheckPath'. -/
def fnExactCheckPathCard : Claim7 := { stood := { row := fnExactCheckPathRow, standIns := [], harness := (true, "1aed61b4a6f901a5edae7e6d853cf3fcd766b0c407302c0a550521a76a7568f8"), looks := false }, kinds := [], alts := [], laidByText := true, laidKinds := [.data, .data], laidTests := true, laidLooks := .later }
def FnExactCheckPathCardSaid : Prop := Claim7.holds Tryd.pinned (.plain (OpenSpec.ofChange fnExactCheckPathSpec)) fnExactCheckPathCard

/-- THE TIED CARD OF 'laws.FnExactExtractCollision'. -/
def fnExactExtractCollisionCard : Claim7 := { stood := { row := fnExactExtractCollisionRow, standIns := [], harness := (true, "1aed61b4a6f901a5edae7e6d853cf3fcd766b0c407302c0a550521a76a7568f8"), looks := false }, kinds := [], alts := [], laidByText := true, laidKinds := [.data, .data], laidTests := true, laidLooks := .later }
def FnExactExtractCollisionCardSaid : Prop := Claim7.holds Tryd.pinned (.plain (OpenSpec.ofChange fnExactExtractCollisionSpec)) fnExactExtractCollisionCard

/-- THE TIED CARD OF 'laws.FnExactNewSponge'. -/
def fnExactNewSpongeCard : Claim7 := { stood := { row := fnExactNewSpongeRow, standIns := [], harness := (true, "1aed61b4a6f901a5edae7e6d853cf3fcd766b0c407302c0a550521a76a7568f8"), looks := false }, kinds := [], alts := [], laidByText := true, laidKinds := [.data, .data], laidTests := true, laidLooks := .later }
def FnExactNewSpongeCardSaid : Prop := Claim7.holds Tryd.pinned (.plain (OpenSpec.ofChange fnExactNewSpongeSpec)) fnExactNewSpongeCard

/-- THE SECOND FORM's CARD OF 'laws.FnExactNodeHash'. -/
def fnExactNodeHashUptoCard : Claim7 := { stood := { row := fnExactNodeHashUptoRow, standIns := [], harness := (true, "1aed61b4a6f901a5edae7e6d853cf3fcd766b0c407302c0a550521a76a7568f8"), looks := false }, kinds := [], alts := [], laidByText := true, laidKinds := [.data, .data], laidTests := true, laidLooks := .later }
def FnExactNodeHashUptoCardSaid : Prop := Claim7.holds Tryd.pinned (.plain (OpenSpec.upto fnExactNodeHashSpec)) fnExactNodeHashUptoCard

/-- THE SECOND FORM's CARD OF 'laws.FnExactMerkleRoot'. -/
def fnExactMerkleRootUptoCard : Claim7 := { stood := { row := fnExactMerkleRootUptoRow, standIns := [], harness := (true, "1aed61b4a6f901a5edae7e6d853cf3fcd766b0c407302c0a550521a76a7568f8"), looks := false }, kinds := [], alts := [], laidByText := true, laidKinds := [.data, .data], laidTests := true, laidLooks := .later }
def FnExactMerkleRootUptoCardSaid : Prop := Claim7.holds Tryd.pinned (.plain (OpenSpec.upto fnExactMerkleRootSpec)) fnExactMerkleRootUptoCard

/-- THE SECOND FORM's CARD OF 'laws.FnExactMerklePath'. -/
def fnExactMerklePathUptoCard : Claim7 := { stood := { row := fnExactMerklePathUptoRow, standIns := [], harness := (true, "1aed61b4a6f901a5edae7e6d853cf3fcd766b0c407302c0a550521a76a7568f8"), looks := false }, kinds := [], alts := [], laidByText := true, laidKinds := [.data, .data], laidTests := true, laidLooks := .later }
def FnExactMerklePathUptoCardSaid : Prop := Claim7.holds Tryd.pinned (.plain (OpenSpec.upto fnExactMerklePathSpec)) fnExactMerklePathUptoCard

/-- THE SECOND FORM's CARD OF 'laws.FnExactCheckPath'. -/
def fnExactCheckPathUptoCard : Claim7 := { stood := { row := fnExactCheckPathUptoRow, standIns := [], harness := (true, "1aed61b4a6f901a5edae7e6d853cf3fcd766b0c407302c0a550521a76a7568f8"), looks := false }, kinds := [], alts := [], laidByText := true, laidKinds := [.data, .data], laidTests := true, laidLooks := .later }
def FnExactCheckPathUptoCardSaid : Prop := Claim7.holds Tryd.pinned (.plain (OpenSpec.upto fnExactCheckPathSpec)) fnExactCheckPathUptoCard

/-- THE SECOND FORM's CARD OF 'laws.FnExactExtractCollision'. -/
def fnExactExtractCollisionUptoCard : Claim7 := { stood := { row := fnExactExtractCollisionUptoRow, standIns := [], harness := (true, "1aed61b4a6f901a5edae7e6d853cf3fcd766b0c407302c0a550521a76a7568f8"), looks := false }, kinds := [], alts := [], laidByText := true, laidKinds := [.data, .data], laidTests := true, laidLooks := .later }
def FnExactExtractCollisionUptoCardSaid : Prop := Claim7.holds Tryd.pinned (.plain (OpenSpec.upto fnExactExtractCollisionSpec)) fnExactExtractCollisionUptoCard

/-- THE SECOND FORM's CARD OF 'laws.FnExactNewSponge'. -/
def fnExactNewSpongeUptoCard : Claim7 := { stood := { row := fnExactNewSpongeUptoRow, standIns := [], harness := (true, "1aed61b4a6f901a5edae7e6d853cf3fcd766b0c407302c0a550521a76a7568f8"), looks := false }, kinds := [], alts := [], laidByText := true, laidKinds := [.data, .data], laidTests := true, laidLooks := .later }
def FnExactNewSpongeUptoCardSaid : Prop := Claim7.holds Tryd.pinned (.plain (OpenSpec.upto fnExactNewSpongeSpec)) fnExactNewSpongeUptoCard
end Rows
end Go.Proofs.YtabioonijjibnalDoor
