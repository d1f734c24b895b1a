/- Several texts in one: Sums of rows as plain numbers. No program is named here. · Rows that fail, as plain numbers; what a right system is made of. No program is named here. -/
import Derived.Test.YtpcakjajnfbgdaaBzam
import Derived.Test.YtpcakjajnfbgdaaBzaq
namespace Go.Proofs.Ytpcakjajnfbgdaa

/-- A number of the field. -/
def fdb (x : Int) : Bool := decide (0 ≤ x ∧ x < 2130706433)
/-- All of the first n are. -/
def fds (n : Nat) (f : Nat → Int) : Bool := (List.range n).all fun i => fdb (f i)
theorem fds_all {n : Nat} {f : Nat → Int} (h : ∀ i, i < n → fdb (f i) = true) : fds n f = true := List.all_eq_true.2 (fun i hi => h i (by simpa using hi))
theorem fds_no {n k : Nat} {f : Nat → Int} (hk : k < n) (h : fdb (f k) = false) : fds n f = false := by
  rw [fds, List.all_eq_false]
  exact ⟨k, by simpa using hk, by rw [h]; simp⟩

end Go.Proofs.Ytpcakjajnfbgdaa

namespace Go.Proofs.Ytpcakjajnfbgdaa

theorem elm_parts {R C : Int} {n : Nat} {X : Nat → En} (h : elm R C n X = true) : n ≤ 200 ∧ ∀ i, i < n → win R C (X i) = true := by
  simp [elm] at h
  exact ⟨h.1.1, fun i hi => h.1.2 i hi⟩
theorem sysb_parts {s : Sy} (h : sysb s = true) : ∃ rr m : Nat, s.r = (rr : Int) ∧ s.q = ((m + 1 : Nat) : Int) ∧ 1 ≤ rr ∧ rr ≤ 5 ∧ 1 ≤ m ∧ m ≤ 4 ∧ 0 ≤ s.p ∧ s.p < 2 ^ m ∧ elm (2 ^ rr) (2 ^ (m + 1)) s.nA s.XA = true ∧ elm (2 ^ rr) (2 ^ (m + 1)) s.nB s.XB = true ∧ elm (2 ^ rr) (2 ^ (m + 1)) s.nC s.XC = true := by
  simp only [sysb, Bool.and_eq_true, decide_eq_true_eq] at h
  obtain ⟨⟨⟨⟨⟨⟨r0, r1⟩, q0, q1⟩, p0, p1⟩, hA⟩, hB⟩, hC⟩ := h
  refine ⟨s.r.toNat, s.q.toNat - 1, by omega, by omega, by omega, by omega, by omega, by omega, p0, ?_, ?_, ?_, ?_⟩
  · exact p1
  · rw [show s.q.toNat - 1 + 1 = s.q.toNat by omega]; exact hA
  · rw [show s.q.toNat - 1 + 1 = s.q.toNat by omega]; exact hB
  · rw [show s.q.toNat - 1 + 1 = s.q.toNat by omega]; exact hC
theorem pow_cast (k : Nat) : ((2 ^ k : Nat) : Int) = 2 ^ k := by simp

end Go.Proofs.Ytpcakjajnfbgdaa
