/- Rows that fail, as plain numbers; what a right system is made of. No program is named here. -/
import Derived.Test.YtjcclokldanddaaRsmM
import Derived.Test.YtjcclokldanddaaSysX
namespace Go.Proofs.Ytjcclokldanddaa

/-- The first number from i on, of the next f, that has it. -/
def ffr (g : Nat → Bool) : Nat → Nat → Option Nat
  | 0, _ => none
  | f + 1, i => if g i then some i else ffr g f (i + 1)
/-- Row i fails. -/
def frb (s : Sy) (z : Nat → Int) (i : Nat) : Bool := decide (rsE s.XA z s.nA i * rsE s.XB z s.nB i % 2130706433 ≠ rsE s.XC z s.nC i)
/-- What is told of a system and a vector. -/
def cfc (s : Sy) (m : Nat) (z : Nat → Int) : Int := if 4096 < m then 2 else if sysb s = false ∨ fds m z = false then 1 else if (m : Int) ≠ 2 ^ s.q.toNat then 8 else 0
/-- The first row that fails. -/
def frr (s : Sy) (z : Nat → Int) : Option Nat := ffr (frb s z) (2 ^ s.r.toNat) 0
/-- A row, a code. -/
def frm : Option Nat → Int × Int
  | some i => ((i : Int), 0)
  | none => (0, 5)
/-- FailedRow's answer: the row, the code. -/
def frv (s : Sy) (m : Nat) (z : Nat → Int) : Int × Int := if cfc s m z = 0 then frm (frr s z) else (0, cfc s m z)
/-- The model's own word for the first row that fails. -/
def frj : Option Nat → Int
  | some i => (i : Int)
  | none => -1
/-- Satisfied's answer. -/
def stv (s : Sy) (m : Nat) (z : Nat → Int) : Bool × Int := if cfc s m z = 0 then (decide (frj (frr s z) < 0), 0) else (false, cfc s m z)
theorem cfc_five (s : Sy) (m : Nat) (z : Nat → Int) : cfc s m z ≠ 5 := by
  unfold cfc
  split
  · omega
  · split
    · omega
    · split <;> omega
theorem cfc_parts {s : Sy} {m : Nat} {z : Nat → Int} (h0 : cfc s m z = 0) : m ≤ 4096 ∧ sysb s = true ∧ fds m z = true ∧ (m : Int) = 2 ^ s.q.toNat := by
  unfold cfc at h0
  by_cases h1 : 4096 < m
  · rw [if_pos h1] at h0; cases h0
  · rw [if_neg h1] at h0
    by_cases h2 : sysb s = false ∨ fds m z = false
    · rw [if_pos h2] at h0; cases h0
    · rw [if_neg h2] at h0
      by_cases h3 : (m : Int) = 2 ^ s.q.toNat
      · exact ⟨by omega, by cases h : sysb s with | true => rfl | false => exact absurd (.inl h) h2, by cases h : fds m z with | true => rfl | false => exact absurd (.inr h) h2, h3⟩
      · rw [if_pos h3] at h0; cases h0
theorem elm_parts {R C : Int} {n : Nat} {X : Nat → En} (h : elm R C n X = true) : n ≤ 200 ∧ ∀ i, i < n → win R C (X i) = true := by
  simp [elm] at h
  exact ⟨h.1.1, fun i hi => h.1.2 i hi⟩
theorem sysb_parts {s : Sy} (h : sysb s = true) : ∃ rr m : Nat, s.r = (rr : Int) ∧ s.q = ((m + 1 : Nat) : Int) ∧ 1 ≤ rr ∧ rr ≤ 5 ∧ 1 ≤ m ∧ m ≤ 4 ∧ 0 ≤ s.p ∧ s.p < 2 ^ m ∧ elm (2 ^ rr) (2 ^ (m + 1)) s.nA s.XA = true ∧ elm (2 ^ rr) (2 ^ (m + 1)) s.nB s.XB = true ∧ elm (2 ^ rr) (2 ^ (m + 1)) s.nC s.XC = true := by
  simp only [sysb, Bool.and_eq_true, decide_eq_true_eq] at h
  obtain ⟨⟨⟨⟨⟨⟨r0, r1⟩, q0, q1⟩, p0, p1⟩, hA⟩, hB⟩, hC⟩ := h
  refine ⟨s.r.toNat, s.q.toNat - 1, by omega, by omega, by omega, by omega, by omega, by omega, p0, ?_, ?_, ?_, ?_⟩
  · exact p1
  · rw [show s.q.toNat - 1 + 1 = s.q.toNat by omega]; exact hA
  · rw [show s.q.toNat - 1 + 1 = s.q.toNat by omega]; exact hB
  · rw [show s.q.toNat - 1 + 1 = s.q.toNat by omega]; exact hC
theorem ffr_hit {g : Nat → Bool} {R k : Nat} (hk : k < R) (h : ffr g R 0 = ffr g (R - k) k) (hg : g k = true) : ffr g R 0 = some k := by
  rw [h, show R - k = (R - (k + 1)) + 1 by omega, ffr, if_pos hg]
theorem ffr_miss {g : Nat → Bool} {R k : Nat} (hk : k < R) (h : ffr g R 0 = ffr g (R - k) k) (hg : g k = false) : ffr g R 0 = ffr g (R - (k + 1)) (k + 1) := by
  rw [h, show R - k = (R - (k + 1)) + 1 by omega, ffr, if_neg (by rw [hg]; simp)]
theorem ffr_end {g : Nat → Bool} {R : Nat} (h : ffr g R 0 = ffr g (R - R) R) : ffr g R 0 = none := by
  rw [h, Nat.sub_self, ffr]
theorem pow_cast (k : Nat) : ((2 ^ k : Nat) : Int) = 2 ^ k := by simp
theorem pow5 {k : Nat} (h : k ≤ 5) : 2 ^ k ≤ 32 := by
  rcases (show k = 0 ∨ k = 1 ∨ k = 2 ∨ k = 3 ∨ k = 4 ∨ k = 5 by omega) with rfl | rfl | rfl | rfl | rfl | rfl <;> decide
end Go.Proofs.Ytjcclokldanddaa
