/- Several texts in one: Sums of rows as plain numbers. No program is named here. · Rows that fail, as plain numbers; what a right system is made of. No program is named here. -/
import Derived.Test.YtjaopbaapldceaaBzao
import Derived.Test.YtjaopbaapldceaaBzar
namespace Go.Proofs.Ytjaopbaapldceaa

/-- A number of the field. -/
def fdb (x : Int) : Bool := decide (0 ≤ x ∧ x < 2130706433)
/-- All of the first n are. -/
def fds (n : Nat) (f : Nat → Int) : Bool := (List.range n).all fun i => fdb (f i)
/-- Row i of the first k entries times z. -/
def rsE (X : Nat → En) (z : Nat → Int) : Nat → Nat → Int
  | 0, _ => 0
  | k + 1, i => if (X k).1 = (i : Int) then (rsE X z k i + (X k).2.2 * z (X k).2.1.toNat) % 2130706433 else rsE X z k i
theorem fds_at {n : Nat} {f : Nat → Int} (h : fds n f = true) {i : Nat} (hi : i < n) : 0 ≤ f i ∧ f i < 2130706433 := by
  have := List.all_eq_true.1 h i (by simpa using hi)
  simpa [fdb] using this
theorem fds_all {n : Nat} {f : Nat → Int} (h : ∀ i, i < n → fdb (f i) = true) : fds n f = true := List.all_eq_true.2 (fun i hi => h i (by simpa using hi))
theorem fds_no {n k : Nat} {f : Nat → Int} (hk : k < n) (h : fdb (f k) = false) : fds n f = false := by
  rw [fds, List.all_eq_false]
  exact ⟨k, by simpa using hk, by rw [h]; simp⟩
theorem rsE_bd (X : Nat → En) (z : Nat → Int) : ∀ (k i : Nat), 0 ≤ rsE X z k i ∧ rsE X z k i < 2130706433
  | 0, _ => ⟨by simp [rsE], by simp [rsE]⟩
  | k + 1, i => by
    unfold rsE
    split
    · exact ⟨Int.emod_nonneg _ (by omega), Int.emod_lt_of_pos _ (by omega)⟩
    · exact rsE_bd X z k i
/-- The places of a matrix, as natural numbers. -/
theorem win_nat {R C : Int} {x : En} (h : win R C x = true) : ∃ a b : Nat, x.1 = (a : Int) ∧ x.2.1 = (b : Int) ∧ (a : Int) < R ∧ (b : Int) < C ∧ 1 ≤ x.2.2 ∧ x.2.2 < 2130706433 := by
  simp [win] at h
  exact ⟨x.1.toNat, x.2.1.toNat, by omega, by omega, by omega, by omega, by omega, by omega⟩
theorem mul_bd {a b : Int} (a0 : 0 ≤ a) (a1 : a < 2130706433) (b0 : 0 ≤ b) (b1 : b < 2130706433) : 0 ≤ a * b ∧ a * b ≤ 4539909899366170624 := by
  refine ⟨Int.mul_nonneg a0 b0, ?_⟩
  have h1 : a * b ≤ 2130706432 * b := Int.mul_le_mul_of_nonneg_right (by omega) b0
  omega

end Go.Proofs.Ytjaopbaapldceaa

namespace Go.Proofs.Ytjaopbaapldceaa

/-- The first number from i on, of the next f, that has it. -/
def ffr (g : Nat → Bool) : Nat → Nat → Option Nat
  | 0, _ => none
  | f + 1, i => if g i then some i else ffr g f (i + 1)
/-- Row i fails. -/
def frb (s : Sy) (z : Nat → Int) (i : Nat) : Bool := decide (rsE s.XA z s.nA i * rsE s.XB z s.nB i % 2130706433 ≠ rsE s.XC z s.nC i)
/-- What is told of a system and a vector. -/
def cfc (s : Sy) (m : Nat) (z : Nat → Int) : Int := if 4096 < m then 2 else if sysb s = false ∨ fds m z = false then 1 else if (m : Int) ≠ 2 ^ s.q.toNat then 8 else 0
/-- The first row that fails. -/
def frr (s : Sy) (z : Nat → Int) : Option Nat := ffr (frb s z) (2 ^ s.r.toNat) 0
/-- A row, a code. -/
def frm : Option Nat → Int × Int
  | some i => ((i : Int), 0)
  | none => (0, 5)
/-- FailedRow's answer: the row, the code. -/
def frv (s : Sy) (m : Nat) (z : Nat → Int) : Int × Int := if cfc s m z = 0 then frm (frr s z) else (0, cfc s m z)
/-- The model's own word for the first row that fails. -/
def frj : Option Nat → Int
  | some i => (i : Int)
  | none => -1
/-- Satisfied's answer. -/
def stv (s : Sy) (m : Nat) (z : Nat → Int) : Bool × Int := if cfc s m z = 0 then (decide (frj (frr s z) < 0), 0) else (false, cfc s m z)
theorem cfc_five (s : Sy) (m : Nat) (z : Nat → Int) : cfc s m z ≠ 5 := by
  unfold cfc
  split
  · omega
  · split
    · omega
    · split <;> omega
theorem elm_parts {R C : Int} {n : Nat} {X : Nat → En} (h : elm R C n X = true) : n ≤ 200 ∧ ∀ i, i < n → win R C (X i) = true := by
  simp [elm] at h
  exact ⟨h.1.1, fun i hi => h.1.2 i hi⟩
theorem sysb_parts {s : Sy} (h : sysb s = true) : ∃ rr m : Nat, s.r = (rr : Int) ∧ s.q = ((m + 1 : Nat) : Int) ∧ 1 ≤ rr ∧ rr ≤ 5 ∧ 1 ≤ m ∧ m ≤ 4 ∧ 0 ≤ s.p ∧ s.p < 2 ^ m ∧ elm (2 ^ rr) (2 ^ (m + 1)) s.nA s.XA = true ∧ elm (2 ^ rr) (2 ^ (m + 1)) s.nB s.XB = true ∧ elm (2 ^ rr) (2 ^ (m + 1)) s.nC s.XC = true := by
  simp only [sysb, Bool.and_eq_true, decide_eq_true_eq] at h
  obtain ⟨⟨⟨⟨⟨⟨r0, r1⟩, q0, q1⟩, p0, p1⟩, hA⟩, hB⟩, hC⟩ := h
  refine ⟨s.r.toNat, s.q.toNat - 1, by omega, by omega, by omega, by omega, by omega, by omega, p0, ?_, ?_, ?_, ?_⟩
  · exact p1
  · rw [show s.q.toNat - 1 + 1 = s.q.toNat by omega]; exact hA
  · rw [show s.q.toNat - 1 + 1 = s.q.toNat by omega]; exact hB
  · rw [show s.q.toNat - 1 + 1 = s.q.toNat by omega]; exact hC
theorem ffr_hit {g : Nat → Bool} {R k : Nat} (hk : k < R) (h : ffr g R 0 = ffr g (R - k) k) (hg : g k = true) : ffr g R 0 = some k := by
  rw [h, show R - k = (R - (k + 1)) + 1 by omega, ffr, if_pos hg]
theorem ffr_miss {g : Nat → Bool} {R k : Nat} (hk : k < R) (h : ffr g R 0 = ffr g (R - k) k) (hg : g k = false) : ffr g R 0 = ffr g (R - (k + 1)) (k + 1) := by
  rw [h, show R - k = (R - (k + 1)) + 1 by omega, ffr, if_neg (by rw [hg]; simp)]
theorem ffr_end {g : Nat → Bool} {R : Nat} (h : ffr g R 0 = ffr g (R - R) R) : ffr g R 0 = none := by
  rw [h, Nat.sub_self, ffr]
theorem pow_cast (k : Nat) : ((2 ^ k : Nat) : Int) = 2 ^ k := by simp
theorem pow5 {k : Nat} (h : k ≤ 5) : 2 ^ k ≤ 32 := by
  rcases (show k = 0 ∨ k = 1 ∨ k = 2 ∨ k = 3 ∨ k = 4 ∨ k = 5 by omega) with rfl | rfl | rfl | rfl | rfl | rfl <;> decide

end Go.Proofs.Ytjaopbaapldceaa
