/- Several texts in one: What the program's closures over tables, its sums and rounds answer: placesOf, sumOver, sum, allBound, cubesFrom, round: contracts. Conditions: tables by value of at most 64 elements of the greater field. · What the program's allBound, cubesFrom and round answer: contracts. Conditions: tables of at most 64 elements of the greater field. -/
import Derived.Test.YtccgjbdjbgefiaaGreatDoorBzbn
import Derived.Test.YtccgjbdjbgefiaaGreatDoorBzbk
import Derived.Test.YtccgjbdjbgefiaaGreatDoorBzak
namespace Go.Proofs.YtccgjbdjbgefiaaGreatDoor
open Go.ChangeShapes Go.WideShapes Go.ChangeAt Go.RowKit
set_option linter.unusedVariables false
set_option maxRecDepth 100000
set_option linter.unusedSimpArgs false

theorem RowE.chg {P : Nat → Prop} {w w' : World} {b n : Nat} {t : Nat → El} (h : RowE w b n t) (k : Chg P w w') (hp : ¬ P b) : RowE w' b n t := rowIs_chg h k hp
theorem RowE.fz {w : World} {b n : Nat} {t : Nat → El} (h : RowE w b n t) (o : Nat) : w.frozen? ⟨b, o, none⟩ = false := World.rowIs.frozen h o
/-- What a closure over tables holds: a box with the tables, one with a list of its own, a combination. -/
def PlI (w : World) (bt bv bc b vb n : Nat) (t d : Int) (f : Nat) (S : Nat → Nat) (T : Nat → Nat → El) : Prop :=
  w.rowIs bt 154 1 (fun _ => .slice (some ⟨b, 0, none⟩) n n) ∧ w.rowIs bv 30 1 (fun _ => .slice (some ⟨vb, 0, none⟩) n n) ∧ CmB w bc t d (.func (.func f) #[] #[]) ∧ Cbs w b n S T ∧ ∃ V, RowE w vb n V
section
variable {w w' : World} {bt bv bc b vb n : Nat} {t d : Int} {f : Nat} {S : Nat → Nat} {T : Nat → Nat → El}
theorem PlI.keep (h : PlI w bt bv bc b vb n t d f S T) (k : Chg nob w w') : PlI w' bt bv bc b vb n t d f S T := by
  obtain ⟨h1, h2, h3, h4, V, h5⟩ := h
  exact ⟨rowIs_keep h1 k, rowIs_keep h2 k, h3.keep k, h4.keep k, V, h5.keep k⟩
/-- All but the closure's own list. -/
theorem PlI.rest (h : PlI w bt bv bc b vb n t d f S T) (k : Chg (fun x => x = vb) w w') : w'.rowIs bt 154 1 (fun _ => .slice (some ⟨b, 0, none⟩) n n) ∧ w'.rowIs bv 30 1 (fun _ => .slice (some ⟨vb, 0, none⟩) n n) ∧ CmB w' bc t d (.func (.func f) #[] #[]) ∧ Cbs w' b n S T := by
  obtain ⟨h1, h2, h3, h4, V, h5⟩ := h
  exact ⟨rowIs_chg h1 k (fun e => absurd (rowIs_kind (e ▸ h1) h5) (by decide)), rowIs_chg h2 k (fun e => absurd (rowIs_kind (e ▸ h2) h5) (by decide)), h3.chg k (fun e => absurd (rowIs_kind (e ▸ h3) h5) (by decide)), h4.chg k (fun e => absurd (rowIs_kind (e ▸ h4) h5) (by decide))⟩
end


end Go.Proofs.YtccgjbdjbgefiaaGreatDoor

namespace Go.Proofs.YtccgjbdjbgefiaaGreatDoor
open Go.ChangeShapes Go.WideShapes Go.ChangeAt Go.RowKit
set_option linter.unusedVariables false
set_option maxRecDepth 100000
set_option linter.unusedSimpArgs false


end Go.Proofs.YtccgjbdjbgefiaaGreatDoor
