/- Several texts in one: Sums of rows as plain numbers. No program is named here. · Rows that fail, as plain numbers; what a right system is made of. No program is named here. -/
import Derived.Test.YtkpohajmcngjcaaDoorBzah
import Derived.Test.YtkpohajmcngjcaaDoorBzak
namespace Go.Proofs.YtkpohajmcngjcaaDoor

/-- The places of a matrix, as natural numbers. -/
theorem win_nat {R C : Int} {x : En} (h : win R C x = true) : ∃ a b : Nat, x.1 = (a : Int) ∧ x.2.1 = (b : Int) ∧ (a : Int) < R ∧ (b : Int) < C ∧ 1 ≤ x.2.2 ∧ x.2.2 < 2130706433 := by
  simp [win] at h
  exact ⟨x.1.toNat, x.2.1.toNat, by omega, by omega, by omega, by omega, by omega, by omega⟩

end Go.Proofs.YtkpohajmcngjcaaDoor

namespace Go.Proofs.YtkpohajmcngjcaaDoor

theorem elm_parts {R C : Int} {n : Nat} {X : Nat → En} (h : elm R C n X = true) : n ≤ 200 ∧ ∀ i, i < n → win R C (X i) = true := by
  simp [elm] at h
  exact ⟨h.1.1, fun i hi => h.1.2 i hi⟩
theorem sysb_parts {s : Sy} (h : sysb s = true) : ∃ rr m : Nat, s.r = (rr : Int) ∧ s.q = ((m + 1 : Nat) : Int) ∧ 1 ≤ rr ∧ rr ≤ 5 ∧ 1 ≤ m ∧ m ≤ 4 ∧ 0 ≤ s.p ∧ s.p < 2 ^ m ∧ elm (2 ^ rr) (2 ^ (m + 1)) s.nA s.XA = true ∧ elm (2 ^ rr) (2 ^ (m + 1)) s.nB s.XB = true ∧ elm (2 ^ rr) (2 ^ (m + 1)) s.nC s.XC = true := by
  simp only [sysb, Bool.and_eq_true, decide_eq_true_eq] at h
  obtain ⟨⟨⟨⟨⟨⟨r0, r1⟩, q0, q1⟩, p0, p1⟩, hA⟩, hB⟩, hC⟩ := h
  refine ⟨s.r.toNat, s.q.toNat - 1, by omega, by omega, by omega, by omega, by omega, by omega, p0, ?_, ?_, ?_, ?_⟩
  · exact p1
  · rw [show s.q.toNat - 1 + 1 = s.q.toNat by omega]; exact hA
  · rw [show s.q.toNat - 1 + 1 = s.q.toNat by omega]; exact hB
  · rw [show s.q.toNat - 1 + 1 = s.q.toNat by omega]; exact hC
theorem pow_cast (k : Nat) : ((2 ^ k : Nat) : Int) = 2 ^ k := by simp
theorem pow5 {k : Nat} (h : k ≤ 5) : 2 ^ k ≤ 32 := by
  rcases (show k = 0 ∨ k = 1 ∨ k = 2 ∨ k = 3 ∨ k = 4 ∨ k = 5 by omega) with rfl | rfl | rfl | rfl | rfl | rfl <;> decide

end Go.Proofs.YtkpohajmcngjcaaDoor
