/- Slices of bytes that come in as an argument: what their cells hold. No condition but those that each theorem states. -/
import Derived.Test.YtfgnhaoonpknlaaBzah
import Derived.Deep.Slices
import Derived.Deep.SlicePairs
import Derived.Lib.SmallJoins
import Derived.OpenShut
namespace Go.Proofs.Ytfgnhaoonpknlaa
open Go.ChangeShapes Go.WideShapes Go.ChangeAt Go.RowKit Go.Joins Go.Deep
set_option linter.unusedVariables false
set_option linter.unusedSimpArgs false
section
variable {H : Type} {enc : TypeId × Value → H} {w : World} {base : Nat} {spare : Nat → Bool} {held : Bool}
theorem in_bytes {fuel : Nat} {v : Value} {x : DataW H × List MemPlace} (hf : DataW.trod enc Try.prog w base spare held fuel 22 [v] = some x) :
    ∃ (c : Option Addr) (n cap : Nat) (z : Nat → Int), v = .slice c n cap ∧ RowV w c n (bw z) ∧ (∀ j, 0 ≤ z j ∧ z j < 256) ∧ n ≤ 9223372036854775807 := by
  rcases open_ints Try.underlying22 Try.underlying5 (by kernel_rfl) hf with ⟨hcs, _⟩ | ⟨x, l, c, zs, hcs, _, hl, hm, hz, _, hcell, hwz⟩
  · simp at hcs
    subst hcs
    exact ⟨none, 0, 0, fun _ => 0, rfl, fun i hi => absurd hi (by omega), fun j => ⟨Int.le_refl 0, (by decide : (0 : Int) < 256)⟩, by omega⟩
  · simp at hcs
    subst hcs
    unfold maxLen at hm
    have hz' : l ≤ zs.length := by
      rw [hz]
      split <;> omega
    refine ⟨_, l, c, fun i => zs.getD i 0, rfl, fun i hi => ?_, fun j => ?_, by omega⟩
    · obtain ⟨b, o, spot⟩ := x
      have h1 := hcell i (by omega)
      have hs : spot = none := by simpa [Addr.add] using World.cell?_spot (hcell 0 (by omega))
      subst hs
      rw [Go.WideShapes.add_plain] at h1
      exact ⟨b, o, rfl, block_lt_of_cell h1, h1⟩
    · have hb := range_u8 hwz j
      exact ⟨hb.1, Int.lt_of_le_of_lt hb.2 (by decide)⟩
end

end Go.Proofs.Ytfgnhaoonpknlaa
