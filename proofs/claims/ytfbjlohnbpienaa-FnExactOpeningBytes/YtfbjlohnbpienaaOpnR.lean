/- Lists of lists that come in as an argument: what their cells hold. No condition but those that each theorem states. -/
import Derived.Test.YtfbjlohnbpienaaBzao
import Derived.Deep.SlicePairs
import Derived.OpenShut
namespace Go.Proofs.Ytfbjlohnbpienaa
open Go.ChangeShapes Go.WideShapes Go.ChangeAt Go.RowKit Go.Deep
set_option linter.unusedVariables false
set_option maxRecDepth 100000
set_option linter.unusedSimpArgs false

theorem cellsL2 : Try.prog.cellsOf 25 = 2 := by kernel_rfl
theorem cellsL1 : Try.prog.cellsOf 3 = 1 := by kernel_rfl

section
variable {H : Type} {enc : TypeId × Value → H} {w : World} {base : Nat} {spare : Nat → Bool} {held : Bool}
theorem open_list {fuel : Nat} {v : Value} {x : DataW H × List MemPlace} (hf : DataW.trod enc Try.prog w base spare held fuel 92 [v] = some x) :
    ∃ q : (Option Addr × Nat × Nat) × (Nat → Int) × (Nat → Int), v = .slice q.1.1 q.1.2.1 q.1.2.2 ∧ IsPairs w q.1.1 q.1.2.1 q.1.2.2 q.2.1 q.2.2 := by
  rcases open_slice_pairs Try.underlying92 Try.underlying25 cellsL2 rfl rfl cellsL1 cellsL1 hf with ⟨hcs, _⟩ | ⟨x, l, c, m, n, V0, V1, D0, D1, P0, P1, hcs, _, hl, hm, hmm, _, hall⟩
  · simp at hcs
    subst hcs
    exact ⟨((none, 0, 0), (fun _ => 0), (fun _ => 0)), rfl, .inl ⟨rfl, rfl, rfl⟩⟩
  · simp at hcs
    subst hcs
    have hlm : l ≤ m := by rw [hmm]; split <;> omega
    refine ⟨((some x, l, c), (fun i => cint (w.cell? (x.add (i * 2)))), (fun i => cint (w.cell? (x.add (i * 2 + 1))))), rfl, .inr ⟨x, rfl, hl, hm, fun i hi => ?_⟩⟩
    have hi' : i < l := hi
    obtain ⟨h1, h2, h3, h4⟩ := hall i (by omega)
    obtain ⟨a, ea, _, _⟩ := DataW.trod_int Try.underlying3 h3
    obtain ⟨b, eb, _, _⟩ := DataW.trod_int Try.underlying3 h4
    simp at ea eb
    rw [ea] at h1
    rw [eb] at h2
    simp [h1, h2, cint]

end

end Go.Proofs.Ytfbjlohnbpienaa
