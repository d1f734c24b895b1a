/- What the program's texts and hashes of leaves and nodes are: contracts. Conditions: texts of at most 2 to the 40 bytes; the tables hold the shifts and the rounds' constants. -/
import Derived.Test.YtabioonijjibnabDoorMrkS
import Derived.Test.YtabioonijjibnabDoorHshI
namespace Go.Proofs.YtabioonijjibnabDoor
open Go.ChangeShapes Go.WideShapes Go.ChangeAt Go.RowKit
set_option linter.unusedVariables false
set_option maxRecDepth 100000
set_option linter.unusedSimpArgs false

set_option maxHeartbeats 1000000 in
theorem leafText_any (t : ByteArray) (w : World) (ht : (t.size : Int) ≤ 1099511627776) :
    Calls Tryd.prog 71 #[.string t] w fun e w' => e = .returned (.string (lfT t)) ∧ w = w' := by
  go_enter Tryd.func71, Tryd.ntmps71
  go_wp2
  go_ret
  exact ⟨rfl, rfl⟩

set_option maxHeartbeats 1000000 in
theorem nodeText_any (a b : ByteArray) (w : World) (ha : (a.size : Int) ≤ 1099511627776) (hb : (b.size : Int) ≤ 1099511627776) :
    Calls Tryd.prog 72 #[.string a, .string b] w fun e w' => e = .returned (.string (ndT a b)) ∧ w = w' := by
  go_enter Tryd.func72, Tryd.ntmps72
  go_wp2
  go_ret
  exact ⟨rfl, rfl⟩

set_option maxHeartbeats 1000000 in
theorem leafHash_any (t : ByteArray) (w : World) (ht : Hid (Tabs w)) (hm : (t.size : Int) ≤ 9223372036854775807) :
    Calls Tryd.prog 23 #[.string t] w fun e w' => e = .returned (.tuple #[.string (lfh t), .int .i64 (lfc t)]) ∧ Chg nob w w' := by
  by_cases h1 : 65536 < t.size
  · have h1' : 65536 < (t.size : Int) := by omega
    have e1 : lfh t = ⟨#[]⟩ := if_pos (by omega)
    have e2 : lfc t = 2 := if_pos h1
    rw [e1, e2]
    go_enter Tryd.func23, Tryd.ntmps23
    go_wp2
    go_ret2
    exact ⟨rfl, Chg.refl _ _⟩
  have h1' : ¬ 65536 < (t.size : Int) := by omega
  by_cases h2 : 64 < t.size
  · have h2' : 64 < (t.size : Int) := by omega
    have e1 : lfh t = ⟨#[]⟩ := if_pos h2
    have e2 : lfc t = 4 := by unfold lfc; rw [if_neg h1, if_pos h2]
    rw [e1, e2]
    go_enter Tryd.func23, Tryd.ntmps23
    go_wp2
    go_ret2
    exact ⟨rfl, Chg.refl _ _⟩
  · have h2' : ¬ 64 < (t.size : Int) := by omega
    have e1 : lfh t = lf t := if_neg h2
    have e2 : lfc t = 0 := by unfold lfc; rw [if_neg h1, if_neg h2]
    rw [e1, e2]
    go_enter Tryd.func23, Tryd.ntmps23
    go_wp2_with (first | (go_at_call 71; refine (leafText_any t _ (by omega)).mono ?_; rintro e W1 ⟨rfl, hw⟩; subst hw) | (go_at_call 70; refine (hashOf_any (lfT t) _ ht (by rw [lfT_size]; omega)).mono ?_; rintro e W2 ⟨rfl, k2⟩))
    go_ret2
    exact ⟨rfl, k2⟩

set_option maxHeartbeats 1000000 in
theorem nodeHash_any (a b : ByteArray) (w : World) (ht : Hid (Tabs w)) (hm : (a.size : Int) ≤ 9223372036854775807) (hk : (b.size : Int) ≤ 9223372036854775807) :
    Calls Tryd.prog 24 #[.string a, .string b] w fun e w' => e = .returned (.tuple #[.string (ndh a b), .int .i64 (ndc a b)]) ∧ Chg nob w w' := by
  by_cases h1 : 65536 < a.size ∨ 65536 < b.size
  · have e1 : ndh a b = ⟨#[]⟩ := if_neg (by omega)
    have e2 : ndc a b = 2 := if_pos h1
    rw [e1, e2]
    clear e1 e2
    by_cases ha : 65536 < a.size
    · have b1 : decide (65536 < (a.size : Int)) = true := by simp; omega
      clear h1
      go_enter Tryd.func24, Tryd.ntmps24
      go_wp2
      go_ret2
      exact ⟨rfl, Chg.refl _ _⟩
    · have b1 : decide (65536 < (a.size : Int)) = false := by simp; omega
      have b2 : decide (65536 < (b.size : Int)) = true := by simp; omega
      clear h1
      go_enter Tryd.func24, Tryd.ntmps24
      go_wp2
      go_ret2
      exact ⟨rfl, Chg.refl _ _⟩
  have b1 : decide (65536 < (a.size : Int)) = false := by simp; omega
  have b2 : decide (65536 < (b.size : Int)) = false := by simp; omega
  by_cases h2 : a.size = 32 ∧ b.size = 32
  · have e1 : ndh a b = nd a b := if_pos h2
    have e2 : ndc a b = 0 := by unfold ndc; rw [if_neg h1, if_pos h2]
    rw [e1, e2]
    clear e1 e2
    have c1 : ((a.size : Int) != 32) = false := by simp; omega
    have c2 : ((b.size : Int) != 32) = false := by simp; omega
    have H2 := hik h2
    clear h1 h2
    go_enter Tryd.func24, Tryd.ntmps24
    go_wp2_with (first | (go_at_call 72; refine (nodeText_any a b _ (by have := H2.out; omega) (by have := H2.out; omega)).mono ?_; rintro e W1 ⟨rfl, hw⟩; subst hw) | (go_at_call 70; refine (hashOf_any (ndT a b) _ ht (by have := H2.out; rw [ndT_size]; omega)).mono ?_; rintro e W2 ⟨rfl, k2⟩))
    go_ret2
    exact ⟨rfl, k2⟩
  · have e1 : ndh a b = ⟨#[]⟩ := if_neg h2
    have e2 : ndc a b = 8 := by unfold ndc; rw [if_neg h1, if_neg h2]
    rw [e1, e2]
    clear e1 e2
    by_cases ha : a.size = 32
    · have c1 : ((a.size : Int) != 32) = false := by simp; omega
      have c2 : ((b.size : Int) != 32) = true := by simp; omega
      clear h1 h2 ha
      go_enter Tryd.func24, Tryd.ntmps24
      go_wp2
      go_ret2
      exact ⟨rfl, Chg.refl _ _⟩
    · have c1 : ((a.size : Int) != 32) = true := by simp; omega
      clear h1 h2 ha
      go_enter Tryd.func24, Tryd.ntmps24
      go_wp2
      go_ret2
      exact ⟨rfl, Chg.refl _ _⟩
end Go.Proofs.YtabioonijjibnabDoor
