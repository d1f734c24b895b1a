/- Lists of lists that come in as an argument: what their cells hold. No condition but those that each theorem states. -/
import Derived.Test.YtpcakjajnfbgdaaLawZ
import Derived.Deep.SlicePairs
import Derived.OpenShut
namespace Go.Proofs.Ytpcakjajnfbgdaa
open Go.ChangeShapes Go.WideShapes Go.ChangeAt Go.RowKit Go.Deep
set_option linter.unusedVariables false
set_option maxRecDepth 100000
set_option linter.unusedSimpArgs false

/-- Lists of lists that came in. -/
def IsRows (w : World) (c : Option Addr) (n : Nat) (A : Nat → Option Addr) (L C : Nat → Nat) (f g : Nat → Nat → Int) : Prop :=
  (n : Int) ≤ 9223372036854775807 ∧ RowsV w c n A L C f g ∧ ∀ i, i < n → (L i : Int) ≤ 9223372036854775807
theorem cellsL2 : Try.prog.cellsOf 42 = 2 := by kernel_rfl
theorem cellsL1 : Try.prog.cellsOf 3 = 1 := by kernel_rfl
theorem cellsLS : Try.prog.cellsOf 62 = 1 := by kernel_rfl

section
variable {H : Type} {enc : TypeId × Value → H} {w : World} {base : Nat} {spare : Nat → Bool} {held : Bool}
theorem open_list {fuel : Nat} {v : Value} {x : DataW H × List MemPlace} (hf : DataW.trod enc Try.prog w base spare held fuel 62 [v] = some x) :
    ∃ q : (Option Addr × Nat × Nat) × (Nat → Int) × (Nat → Int), v = .slice q.1.1 q.1.2.1 q.1.2.2 ∧ IsPairs w q.1.1 q.1.2.1 q.1.2.2 q.2.1 q.2.2 := by
  rcases open_slice_pairs Try.underlying62 Try.underlying42 cellsL2 rfl rfl cellsL1 cellsL1 hf with ⟨hcs, _⟩ | ⟨x, l, c, m, n, V0, V1, D0, D1, P0, P1, hcs, _, hl, hm, hmm, _, hall⟩
  · simp at hcs
    subst hcs
    exact ⟨((none, 0, 0), (fun _ => 0), (fun _ => 0)), rfl, .inl ⟨rfl, rfl, rfl⟩⟩
  · simp at hcs
    subst hcs
    have hlm : l ≤ m := by rw [hmm]; split <;> omega
    refine ⟨((some x, l, c), (fun i => cint (w.cell? (x.add (i * 2)))), (fun i => cint (w.cell? (x.add (i * 2 + 1))))), rfl, .inr ⟨x, rfl, hl, hm, fun i hi => ?_⟩⟩
    have hi' : i < l := hi
    obtain ⟨h1, h2, h3, h4⟩ := hall i (by omega)
    obtain ⟨a, ea, _, _⟩ := DataW.trod_int Try.underlying3 h3
    obtain ⟨b, eb, _, _⟩ := DataW.trod_int Try.underlying3 h4
    simp at ea eb
    rw [ea] at h1
    rw [eb] at h2
    simp [h1, h2, cint]

theorem open_rows {fuel : Nat} {c : Option Addr} {n cap : Nat} {x : DataW H × List MemPlace} (hf : DataW.trod enc Try.prog w base spare held fuel 40 [.slice c n cap] = some x) :
    ∃ A L C f g, IsRows w c n A L C f g := by
  rcases open_slice1 Try.underlying40 cellsLS hf with ⟨hcs, _⟩ | ⟨a, l, cp, m, k, V, D, Pl, hcs, _, hl, hm, hmm, _, hall⟩
  · simp at hcs
    obtain ⟨rfl, rfl, rfl⟩ := hcs
    exact ⟨fun _ => none, fun _ => 0, fun _ => 0, fun _ _ => 0, fun _ _ => 0, by omega, fun i hi => absurd hi (by omega), fun i hi => absurd hi (by omega)⟩
  · simp at hcs
    obtain ⟨rfl, rfl, rfl⟩ := hcs
    have hlm : n ≤ m := by rw [hmm]; split <;> omega
    obtain ⟨q, hq⟩ := choose_lt (α := (Option Addr × Nat × Nat) × (Nat → Int) × (Nat → Int)) (n := n) (p := fun i q => w.cell? (a.add i) = some (.slice q.1.1 q.1.2.1 q.1.2.2) ∧ IsPairs w q.1.1 q.1.2.1 q.1.2.2 q.2.1 q.2.2) (fun i hi => by
      obtain ⟨h1, h2⟩ := hall i (by omega)
      obtain ⟨q, e, hp⟩ := open_list h2
      rw [e] at h1
      exact ⟨q, h1, hp⟩)
    unfold maxLen at hm
    refine ⟨fun i => (q i).1.1, fun i => (q i).1.2.1, fun i => (q i).1.2.2, fun i => (q i).2.1, fun i => (q i).2.2, by omega, fun i hi => ?_, fun i hi => (pairs_of (hq i hi).2).2⟩
    obtain ⟨h1, h2⟩ := hq i hi
    obtain ⟨b, o, spot⟩ := a
    have hs : spot = none := by simpa [Addr.add] using World.cell?_spot (hq 0 (by omega)).1
    subst hs
    rw [Go.WideShapes.add_plain] at h1
    exact ⟨b, o, rfl, block_lt_of_cell h1, h1, (pairs_of h2).1⟩
end
end Go.Proofs.Ytpcakjajnfbgdaa
