/- Several texts in one: Words on memory for drawn sources. No condition but those that each theorem states. · What the drawn source gives of elements, at a seat of any kind: contracts. Conditions: those of each theorem. -/
import Derived.Test.YtbjhppamolmpeaaBzba
import Derived.Test.YtbjhppamolmpeaaBzag
import Derived.Test.YtbjhppamolmpeaaBzad
import Derived.Test.YtbjhppamolmpeaaBzbc
import Derived.Test.YtbjhppamolmpeaaBzbf
namespace Go.Proofs.Ytbjhppamolmpeaa
open Go.ChangeShapes Go.WideShapes Go.ChangeAt Go.RowKit
set_option linter.unusedVariables false
set_option maxRecDepth 100000
set_option linter.unusedSimpArgs false

theorem chg_of_below {w w' : World} (h : Below w.heap.size w w') : Chg nob w w' := ⟨h.os, h.tape, h.output, h.size, fun k hk _ => h.block k hk⟩


end Go.Proofs.Ytbjhppamolmpeaa

namespace Go.Proofs.Ytbjhppamolmpeaa
open Go.ChangeShapes Go.WideShapes Go.ChangeAt Go.RowKit
set_option linter.unusedVariables false
set_option maxRecDepth 100000
set_option linter.unusedSimpArgs false

set_option maxHeartbeats 2000000 in
theorem fieldC_any (n b : Nat) (w : World) (h : Src n w b) (hn : n ≤ 999999998000) :
    Calls Try.prog 75 #[.pointer (some ⟨b, 0, none⟩)] w fun e w' => DrawnC 0 2130706432 (n + 18) b w e w' := by
  have H := hide h
  clear h
  go_enter Try.func75, Try.ntmps75
  go_wp2_with fail
  refine (nextC_any 5 n b _ H.out (by omega) (by omega) (by omega)).mono ?_
  rintro e w1 ⟨r, rfl, r0, r1, hS, hB⟩
  have HS := hide hS
  have HB := hide hB
  clear hS H hB
  have hr : ((r == 0) = true) ∨ ((r == 0) = false ∧ (r == 1) = true) ∨ ((r == 0) = false ∧ (r == 1) = false) := by
    simp only [beq_iff_eq, beq_eq_false_iff_ne]
    omega
  rcases hr with g | ⟨g, g'⟩ | ⟨g, g'⟩
  · go_wp2_with fail
    refine (nextC_any 4 _ b _ HS.out (by omega) (by omega) (by omega)).mono ?_
    rintro e w2 ⟨s, rfl, s0, s1, hS2, hB2⟩
    have HS2 := hide hS2
    have HB2 := hide hB2
    clear hS2 hB2
    go_wp2
    go_ret
    exact ⟨s, rfl, s0, by omega, HS2.out.mono (by omega), HB.out.trans HB2.out⟩
  · go_wp2_with fail
    refine (nextC_any 3 _ b _ HS.out (by omega) (by omega) (by omega)).mono ?_
    rintro e w2 ⟨s, rfl, s0, s1, hS2, hB2⟩
    have HS2 := hide hS2
    have HB2 := hide hB2
    clear hS2 hB2
    go_wp2
    go_ret
    exact ⟨2130706432 - s, rfl, by omega, by omega, HS2.out.mono (by omega), HB.out.trans HB2.out⟩
  · go_wp2
    go_loopw [3, 4] (fun v i W => ∃ (k : Nat) (x : Int), k ≤ 5 ∧ i = .int .i64 k ∧ v = .int .i64 x ∧ 0 ≤ x ∧ x ≤ 2130706432 ∧ Hid (Src (n + 3 + 3 * k) W b) ∧ Hid (Chg (fun k => k = b) w W)) (fun _ i _ => 5 - (intOf i).toNat)
    case atStart => exact ⟨0, 0, by omega, rfl, rfl, by omega, by omega, HS, HB⟩
    case round =>
      obtain ⟨k, x, hk, rfl, rfl, x0, x1, GS, GB⟩ := hrel
      by_cases hlt : k < 5
      · go_wp2_with fail
        refine (nextC_any 256 _ b _ GS.out (by omega) (by omega) (by omega)).mono ?_
        rintro e w2 ⟨s, rfl, s0, s1, hS2, hB2⟩
        have HS2 := hide hS2
        have HB2 := hide hB2
        clear hS2 hB2
        go_wp2
        go_roundw
        case rel => exact ⟨k + 1, _, by omega, by go_num, rfl, by omega, by omega, hide (HS2.out.mono (by omega)), hide (GB.out.trans HB2.out)⟩
        case measure => simp [intOf]; omega
      · go_wp2
        go_ret
        exact ⟨x, rfl, x0, x1, GS.out.mono (by omega), GB.out⟩

/-- A drawn bool. -/
def DrawnB (n b : Nat) (w : World) (e : Ending) (w' : World) : Prop := ∃ r : Bool, e = .returned (.bool r) ∧ Src n w' b ∧ Chg (fun k => k = b) w w'

set_option maxHeartbeats 1000000 in
theorem chance_any (N : Int) (n b : Nat) (w : World) (h : Hid (Src n w b)) (hn : n ≤ 999999999000) (N1 : 1 < N) (N2 : N ≤ 1000000000) :
    Calls Try.prog 74 #[.pointer (some ⟨b, 0, none⟩), .int .i64 N] w fun e w' => DrawnB (n + 3) b w e w' := by
  go_enter Try.func74, Try.ntmps74
  go_wp2_with fail
  refine (nextC_any N n b _ h.out (by omega) N1 N2).mono ?_
  rintro e w' ⟨r, rfl, r0, r1, hS, hB⟩
  have HS := hide hS
  clear hS
  go_wp2
  go_ret
  exact ⟨_, rfl, HS.out, hB⟩


end Go.Proofs.Ytbjhppamolmpeaa
