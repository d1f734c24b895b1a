/- How often a Verify does the permutation: plain. -/
import Derived.Test.YtbjhppamolmpeaaBzai
import Derived.Test.YtbjhppamolmpeaaSizW
namespace Go.Proofs.Ytbjhppamolmpeaa
set_option linter.unusedVariables false
/-- Permutations of a text of n bytes. -/
def clW (n : Int) : Int := n / 136 + 1
/-- Entries. -/
def wkE (s : Sy) : Int := ((s.nA + s.nB + s.nC : Nat) : Int)
def wk1 (s : Sy) : Int := clW (21 + 6 * wkE s) + clW (77 + 4 * s.p)
def wk2 (s : Sy) : Int := 2 + 3 * s.r
def wk3 (s : Sy) : Int := 4 + 2 * s.q
/-- A query's. -/
def wkq (v r : Int) (k : Nat) : Int := hpl v r k + (k : Int)
def wk4 (v r q : Int) : Int := 2 * v + (v - 1) + 3 + q + q * wkq v r v.toNat
/-- WorkOf. -/
def wkV (s : Sy) (r q g : Int) : Int := if sysb s && stb r q g then wk1 s + wk2 s + wk3 s + wk4 (s.q - 1) r q else 0
def wkC (s : Sy) (r q g : Int) : Int := if sysb s && stb r q g then 0 else 1
theorem wkq_bd {v r : Int} (hv : 1 ≤ v) (hv2 : v ≤ 4) (hr : 1 ≤ r) (hr2 : r ≤ 3) (k : Nat) (hk : (k : Int) ≤ v) : 0 ≤ wkq v r k ∧ wkq v r k ≤ 40 := by
  have := hpl_bd v r hv (by omega) hr hr2 k hk
  unfold wkq
  omega
theorem wkq_s (v r : Int) (k : Nat) : wkq v r (k + 1) = wkq v r k + (1 + (v + r - 1 - (k : Int))) := by
  unfold wkq
  simp only [hpl]
  omega
theorem wkE_bd {s : Sy} (h : sysb s = true) : 0 ≤ wkE s ∧ wkE s ≤ 600 := by
  obtain ⟨⟨a, b, c⟩, _, _⟩ := sysb_ent h
  unfold wkE
  omega
theorem sdK_n (s : Sy) : ((sdK s 3).size : Int) = 21 + 6 * wkE s := by
  unfold wkE
  simp only [sdK, sdP_size, sd0_size]
  simp only [pk3]
  push_cast
  omega
theorem clW_lo {n : Int} (h : 0 ≤ n) : 1 ≤ clW n := by unfold clW; omega
theorem clW_hi {n : Int} (h : n ≤ 60000) : clW n ≤ 443 := by unfold clW; omega
theorem wrI {n : Int} (h0 : 0 ≤ n) (h1 : n ≤ 1000000000) : Go.IntKind.i64.wrap n = n := by rw [Go.IntKind.wrap_i64]; omega
theorem wrE {E : Int} (h0 : 0 ≤ E) (h1 : E ≤ 600) : Go.IntKind.i64.wrap (21 + Go.IntKind.i64.wrap (6 * E)) = 21 + 6 * E := by rw [wrI (n := 6 * E) (by omega) (by omega), wrI (by omega) (by omega)]
theorem wrP {p : Int} (h0 : 0 ≤ p) (h1 : p < 16) : Go.IntKind.i64.wrap (77 + Go.IntKind.i64.wrap (4 * p)) = 77 + 4 * p := by rw [wrI (n := 4 * p) (by omega) (by omega), wrI (by omega) (by omega)]
theorem clW_s {n : Int} (h0 : 0 ≤ n) (h : n ≤ 135) : clW n = 1 := by unfold clW; omega

end Go.Proofs.Ytbjhppamolmpeaa
