/- What KeccakCalls and its model answer: contracts. Condition: a number of an int. -/
import Derived.Test.YtbjhppamolmpeaaRows
import Derived.WalkKit
import Derived.ProofKit
import Derived.OpenShut
namespace Go.Proofs.Ytbjhppamolmpeaa
open Go.ChangeShapes Go.WideShapes Go.ChangeAt Go.RowKit
set_option linter.unusedVariables false
set_option maxRecDepth 100000

/-- How often, and the code. -/
def kcn (n : Int) : Int := if n < 0 ∨ 65536 < n then 0 else n / 136 + 1
def kcc (n : Int) : Int := if n < 0 ∨ 65536 < n then 4 else 0

set_option maxHeartbeats 1000000 in
theorem keccakCalls_any (n : Int) (w : World) :
    Calls Try.prog 70 #[.int .i64 n] w fun e w' => e = .returned (.tuple #[.int .i64 (kcn n), .int .i64 (kcc n)]) ∧ w' = w := by
  by_cases h : n < 0 ∨ 65536 < n
  · have e1 : kcn n = 0 := if_pos h
    have e2 : kcc n = 4 := if_pos h
    rw [e1, e2]
    clear e1 e2
    by_cases h1 : n < 0
    · clear h
      go_enter Try.func70, Try.ntmps70
      go_wp2
      go_ret2
      exact ⟨rfl, rfl⟩
    · have h2 : 65536 < n := by omega
      clear h
      have b1 : decide (n < 0) = false := by simpa using h1
      have b2 : decide (65536 < n) = true := by simpa using h2
      go_enter Try.func70, Try.ntmps70
      go_wp2
      go_ret2
      exact ⟨rfl, rfl⟩
  · have e1 : kcn n = n / 136 + 1 := if_neg h
    have e2 : kcc n = 0 := if_neg h
    rw [e1, e2]
    clear e1 e2
    have h1 : ¬ n < 0 := by omega
    have h2 : ¬ 65536 < n := by omega
    have h3 : 0 ≤ n := by omega
    have h4 : n ≤ 65536 := by omega
    have b1 : decide (n < 0) = false := by simpa using h1
    have b2 : decide (65536 < n) = false := by simpa using h2
    clear h
    go_enter Try.func70, Try.ntmps70
    go_wp2
    go_ret2
    exact ⟨rfl, rfl⟩


end Go.Proofs.Ytbjhppamolmpeaa
