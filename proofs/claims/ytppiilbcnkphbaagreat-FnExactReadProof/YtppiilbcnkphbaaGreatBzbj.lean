/- Several texts in one: A matrix times a vector: contracts of both sides. · Slices of bytes that come in as an argument: what their cells hold. No condition but those that each theorem states. -/
import Derived.Test.YtppiilbcnkphbaaGreatBzbi
import Derived.Test.YtppiilbcnkphbaaGreatBzad
import Derived.Deep.Slices
import Derived.Deep.SlicePairs
import Derived.Lib.SmallJoins
import Derived.OpenShut
namespace Go.Proofs.YtppiilbcnkphbaaGreat
open Go.ChangeShapes Go.WideShapes Go.ChangeAt Go.RowKit
set_option linter.unusedVariables false
set_option maxRecDepth 100000
set_option linter.unusedSimpArgs false

/-- 1, 2, 4 to 32. -/
def p5 (n : Nat) : Bool := (List.range 6).any fun j => decide (n = 2 ^ j)
/-- The answer: a row of the call's own, a code. -/
def MmAns (w : World) (code : Int) (N : Nat) (f : Nat → Int) (e : Ending) (w' : World) : Prop :=
  ∃ c cap, e = .returned (.tuple #[.slice c (if code = 0 then N else 0) cap, .int .i64 code]) ∧ (code = 0 → ∃ g, w.heap.size ≤ g ∧ c = some ⟨g, 0, none⟩ ∧ w'.rowIs g 3 N (iv f)) ∧ Chg nob w w'
theorem MmAns.no {w w' : World} {code k : Int} {N : Nat} {f : Nat → Int} {e : Ending} {c : Option Addr} {cap : Nat} (h : code = k) (hk : k ≠ 0) (he : e = .returned (.tuple #[.slice c 0 cap, .int .i64 k])) (kk : Chg nob w w') : MmAns w code N f e w' :=
  ⟨c, cap, by rw [h, if_neg hk]; exact he, fun q => absurd (h.symm.trans q) hk, kk⟩


end Go.Proofs.YtppiilbcnkphbaaGreat

namespace Go.Proofs.YtppiilbcnkphbaaGreat
open Go.ChangeShapes Go.WideShapes Go.ChangeAt Go.RowKit Go.Joins Go.Deep
set_option linter.unusedVariables false
set_option linter.unusedSimpArgs false
section
variable {H : Type} {enc : TypeId × Value → H} {w : World} {base : Nat} {spare : Nat → Bool} {held : Bool}
theorem in_bytes {fuel : Nat} {v : Value} {x : DataW H × List MemPlace} (hf : DataW.trod enc Tryz.prog w base spare held fuel 22 [v] = some x) :
    ∃ (c : Option Addr) (n cap : Nat) (z : Nat → Int), v = .slice c n cap ∧ RowV w c n (bw z) ∧ (∀ j, 0 ≤ z j ∧ z j < 256) ∧ n ≤ 9223372036854775807 := by
  rcases open_ints Tryz.underlying22 Tryz.underlying5 (by kernel_rfl) hf with ⟨hcs, _⟩ | ⟨x, l, c, zs, hcs, _, hl, hm, hz, _, hcell, hwz⟩
  · simp at hcs
    subst hcs
    exact ⟨none, 0, 0, fun _ => 0, rfl, fun i hi => absurd hi (by omega), fun j => ⟨Int.le_refl 0, (by decide : (0 : Int) < 256)⟩, by omega⟩
  · simp at hcs
    subst hcs
    unfold maxLen at hm
    have hz' : l ≤ zs.length := by
      rw [hz]
      split <;> omega
    refine ⟨_, l, c, fun i => zs.getD i 0, rfl, fun i hi => ?_, fun j => ?_, by omega⟩
    · obtain ⟨b, o, spot⟩ := x
      have h1 := hcell i (by omega)
      have hs : spot = none := by simpa [Addr.add] using World.cell?_spot (hcell 0 (by omega))
      subst hs
      rw [Go.WideShapes.add_plain] at h1
      exact ⟨b, o, rfl, block_lt_of_cell h1, h1⟩
    · have hb := range_u8 hwz j
      exact ⟨hb.1, Int.lt_of_le_of_lt hb.2 (by decide)⟩
end

end Go.Proofs.YtppiilbcnkphbaaGreat
