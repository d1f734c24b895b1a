/- The laws' helpers on systems: copies, sizes, likenesses: contracts. Conditions: rows that can be read, lengths of at most 2 to the 40. -/
import Derived.Test.YtjcclokldanddaaLawEn
import Derived.Test.YtjcclokldanddaaSysX
namespace Go.Proofs.Ytjcclokldanddaa
open Go.ChangeShapes Go.WideShapes Go.ChangeAt Go.RowKit
set_option linter.unusedVariables false
set_option maxRecDepth 100000
set_option linter.unusedSimpArgs false

theorem rowNn (W : World) (n : Nat) (a : Array Value) (t : TypeId) (h : a.size = n) : (W.alloc (.cells a t)).rowIs W.heap.size t n (fun i => a.getD i undef) := by
  subst h
  exact W.rowIs_alloc a t _ (fun i hi => by simp [hi])
theorem asz1 (w : World) (o : Obj) : (w.alloc o).heap.size = w.heap.size + 1 := by simp
/-- A copy of a system: three new rows. -/
def SyAns (w : World) (s : Sy) (e : Ending) (w' : World) : Prop :=
  ∃ bA bB bC : Nat, e = .returned (.agg #[.int .i64 s.r, .int .i64 s.q, .int .i64 s.p, .slice (some ⟨bA, 0, none⟩) s.nA s.nA, .slice (some ⟨bB, 0, none⟩) s.nB s.nB, .slice (some ⟨bC, 0, none⟩) s.nC s.nC]) ∧ w.heap.size ≤ bA ∧ bA < bB ∧ bB < bC ∧
    w'.rowIs bA 36 (s.nA * 3) (tf s.XA) ∧ w'.rowIs bB 36 (s.nB * 3) (tf s.XB) ∧ w'.rowIs bC 36 (s.nC * 3) (tf s.XC) ∧ Chg nob w w'

/-- Rows of one's own as a system's lists. -/
theorem SyV.rows {w : World} {s : Sy} {bA bB bC pA pB pC : Nat} (hA : w.rowIs bA 36 (s.nA * 3) (tf s.XA)) (hB : w.rowIs bB 36 (s.nB * 3) (tf s.XB)) (hC : w.rowIs bC 36 (s.nC * 3) (tf s.XC)) : SyV w s ⟨some ⟨bA, 0, none⟩, some ⟨bB, 0, none⟩, some ⟨bC, 0, none⟩, pA, pB, pC⟩ :=
  ⟨EntV.of_row hA (Nat.le_refl _) (fun _ _ => rfl), EntV.of_row hB (Nat.le_refl _) (fun _ _ => rfl), EntV.of_row hC (Nat.le_refl _) (fun _ _ => rfl)⟩
end Go.Proofs.Ytjcclokldanddaa
