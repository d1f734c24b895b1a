/- What the roots of unity come to, of each order that there is. Plain facts; the condition: an order of 2 to the 0 to 23, doubled. -/
import Derived.Test.YtbmeikbiibfpmaaWalks
import Derived.Test.YtbmeikbiibfpmaaFermat
namespace Go.Proofs.Ytbmeikbiibfpmaa

theorem root_sq (k : Int) (h0 : 0 ≤ k) (h1 : k ≤ 24) : rootV k = Fld.sq (24 - k).toNat := by
  rw [rootV, if_pos ⟨h0, h1⟩, Fld.pw_sq]
theorem two_bd : ∀ j : Nat, j < 25 → 0 ≤ (2 : Int) ^ j ∧ (2 : Int) ^ j ≤ 9223372036854775807 := by decide
theorem root_facts (k : Int) (h0 : 0 ≤ k) (h1 : k ≤ 23) :
    rootC k = 0 ∧ rootC (k + 1) = 0 ∧ bad (rootV (k + 1)) (rootV (k + 1)) = 0 ∧
    bin (rootV (k + 1)) (rootV (k + 1)) (rootV (k + 1) * rootV (k + 1) % 2130706433) = rootV k ∧
    powV (rootV (k + 1)) (2 ^ k.toNat) = 2130706432 ∧ powC (rootV (k + 1)) (2 ^ k.toNat) = 0 ∧ rootV 0 = 1 ∧ rootC 0 = 0 ∧
    (0 ≤ (2 : Int) ^ k.toNat ∧ (2 : Int) ^ k.toNat ≤ 9223372036854775807) := by
  have r1 := root_sq (k + 1) (by omega) (by omega)
  have r0 := root_sq k h0 (by omega)
  have rz : rootV 0 = Fld.sq 24 := root_sq 0 (by omega) (by omega)
  have ej : (24 - k).toNat = (24 - (k + 1)).toNat + 1 := by omega
  have hok : fok (rootV (k + 1)) = true := by rw [r1]; exact fok_mk (Fld.sq_lo _) (Fld.sq_hi _)
  have hb := two_bd k.toNat (by omega)
  refine ⟨?_, ?_, bad_ok hok hok, ?_, ?_, powC_ok hok hb.1, ?_, ?_, hb⟩
  · rw [rootC, if_pos ⟨h0, by omega⟩]
  · rw [rootC, if_pos ⟨by omega, by omega⟩]
  · rw [bin_ok hok hok, r1, r0, ej]
    rfl
  · rw [powV_ok hok hb.1, r1]
    have e : (2 : Int) ^ k.toNat = ((2 ^ k.toNat : Nat) : Int) := by simp
    rw [e, Fld.pw_nat, Fld.sq_pow, show (24 - (k + 1)).toNat + k.toNat = 23 by omega, Fld.sq_23]
  · rw [rz, Fld.sq_24]
  · rw [rootC, if_pos ⟨by omega, by omega⟩]
end Go.Proofs.Ytbmeikbiibfpmaa
