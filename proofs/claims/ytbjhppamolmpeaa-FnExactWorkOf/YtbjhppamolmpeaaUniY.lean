/- Systems of a call's own, in blocks from lo to hi: copies, marks: contracts. Conditions: systems that can be read, of at most 2 to the 20 entries. -/
import Derived.Test.YtbjhppamolmpeaaLawSy
import Derived.Test.YtbjhppamolmpeaaLawEk
import Derived.Test.YtbjhppamolmpeaaRowN
import Derived.Deep.DeepCutAuto
namespace Go.Proofs.Ytbjhppamolmpeaa
open Go.ChangeShapes Go.WideShapes Go.ChangeAt Go.RowKit
set_option linter.unusedVariables false
set_option maxRecDepth 100000
set_option linter.unusedSimpArgs false

/-- A system whose matrices lie in blocks of their own. -/
def SyO (w : World) (lo hi : Nat) (s : Sy) (a : SyA) : Prop := ∃ bA bB bC : Nat, a = ⟨some ⟨bA, 0, none⟩, some ⟨bB, 0, none⟩, some ⟨bC, 0, none⟩, s.nA, s.nB, s.nC⟩ ∧ lo ≤ bA ∧ bA < bB ∧ bB < bC ∧ bC < hi ∧ w.rowIs bA 69 (s.nA * 3) (tf s.XA) ∧ w.rowIs bB 69 (s.nB * 3) (tf s.XB) ∧ w.rowIs bC 69 (s.nC * 3) (tf s.XC)
theorem SyO.rep {w : World} {lo hi : Nat} {s : Sy} {a : SyA} (h : SyO w lo hi s a) : SyV w s a := by
  obtain ⟨bA, bB, bC, rfl, _, _, _, _, rA, rB, rC⟩ := h
  exact SyV.rows (pA := s.nA) (pB := s.nB) (pC := s.nC) rA rB rC
theorem SyO.chg {P : Nat → Prop} {w w' : World} {lo hi : Nat} {s : Sy} {a : SyA} (h : SyO w lo hi s a) (k : Chg P w w') (hp : ∀ b, lo ≤ b → b < hi → ¬ P b) : SyO w' lo hi s a := by
  obtain ⟨bA, bB, bC, rfl, l1, l2, l3, l4, rA, rB, rC⟩ := h
  exact ⟨bA, bB, bC, rfl, l1, l2, l3, l4, rowIs_chg rA k (hp _ l1 (by omega)), rowIs_chg rB k (hp _ (by omega) (by omega)), rowIs_chg rC k (hp _ (by omega) l4)⟩
theorem SyO.keep {w w' : World} {lo hi : Nat} {s : Sy} {a : SyA} (h : SyO w lo hi s a) (k : Chg nob w w') : SyO w' lo hi s a := h.chg k (fun _ _ _ x => x)
theorem toSystem_o (s : Sy) (a : SyA) (w : World) (h : Hid (SyV w s a)) (hs : s.small) :
    Calls Try.prog 20 #[.agg #[.int .i64 s.r, .int .i64 s.q, .int .i64 s.p, .slice a.cA s.nA a.pA, .slice a.cB s.nB a.pB, .slice a.cC s.nC a.pC]] w fun e w' => ∃ a : SyA, e = .returned (.agg #[.int .i64 s.r, .int .i64 s.q, .int .i64 s.p, .slice a.cA s.nA a.pA, .slice a.cB s.nB a.pB, .slice a.cC s.nC a.pC]) ∧ SyO w' w.heap.size w'.heap.size s a ∧ Chg nob w w' := by
  refine (toSystem_any s a w h hs).mono ?_
  rintro e w' ⟨bA, bB, bC, rfl, l1, l2, l3, rA, rB, rC, kk⟩
  exact ⟨⟨some ⟨bA, 0, none⟩, some ⟨bB, 0, none⟩, some ⟨bC, 0, none⟩, s.nA, s.nB, s.nC⟩, rfl, ⟨bA, bB, bC, rfl, l1, l2, l3, rC.lt, rA, rB, rC⟩, kk⟩

end Go.Proofs.Ytbjhppamolmpeaa
