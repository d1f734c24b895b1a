/- Several texts in one: What the model's DegreeOf and Combine answer: contracts. Conditions: lists that can be read, of at most 2 to the 40. · What the program's Combine and DegreeOf answer: contracts. Conditions: lists that can be read, of at most 2 to the 40. -/
import Derived.Test.YtfgnhaoonpknlaaBzbd
namespace Go.Proofs.Ytfgnhaoonpknlaa
open Go.ChangeShapes Go.WideShapes Go.ChangeAt Go.RowKit
set_option linter.unusedVariables false
set_option maxRecDepth 100000
set_option linter.unusedSimpArgs false

/-- DegreeOf's answers. -/
def dgv (K : Int) : Int := if kdb K = true then K + 1 else 0
def dgc (K : Int) : Int := if kdb K = true then 0 else 4


end Go.Proofs.Ytfgnhaoonpknlaa

namespace Go.Proofs.Ytfgnhaoonpknlaa
open Go.ChangeShapes Go.WideShapes Go.ChangeAt Go.RowKit
set_option linter.unusedVariables false
set_option maxRecDepth 100000
set_option linter.unusedSimpArgs false

set_option maxHeartbeats 2000000 in
theorem degX_any (K : Int) (w : World) : Calls Try.prog 60 #[.int .i64 K] w fun e w' => e = .returned (.tuple #[.int .i64 (dgv K), .int .i64 (dgc K)]) ∧ Chg nob w w' := by
  cases hk : kdb K
  · have HV := hik (show dgv K = 0 by unfold dgv; rw [hk]; rfl)
    have HC := hik (show dgc K = 4 by unfold dgc; rw [hk]; rfl)
    rw [HV.out, HC.out]
    go_enter Try.func60, Try.ntmps60
    go_wp2_with fail
    refine (co_no K hk _).mono ?_
    rintro e W1 ⟨rfl, k1⟩
    have G1 := hik (k1.alloc (.cells #[.int .i64 0, .int .i64 0, .nilFunc] 94))
    clear k1
    go_wp2
    go_ret2
    exact ⟨rfl, G1.out⟩
  · obtain ⟨k, hKk, hk12⟩ := kdb_nat hk
    subst hKk
    obtain ⟨t, d, ff, hKD, ht, hd⟩ := KD.ex hk12
    have HV := hik (show dgv (k : Int) = d by unfold dgv; rw [if_pos hk, hd])
    have HC := hik (show dgc (k : Int) = 0 by unfold dgc; rw [if_pos hk])
    rw [HV.out, HC.out]
    have HKD := hik hKD
    clear ht hd hKD hk hk12 HV HC
    go_enter Try.func60, Try.ntmps60
    go_wp2_with fail
    refine (co_ok HKD.out _).mono ?_
    rintro e W1 ⟨rfl, k1⟩
    have G1 := hik (k1.alloc (.cells #[.int .i64 t, .int .i64 d, .func (.func ff) #[] #[]] 94))
    clear k1
    go_wp2
    go_ret2
    exact ⟨rfl, G1.out⟩


end Go.Proofs.Ytfgnhaoonpknlaa
