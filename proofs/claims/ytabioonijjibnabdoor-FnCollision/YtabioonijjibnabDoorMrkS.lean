/- What the model's hashes of leaves and nodes answer: contracts. Conditions: texts of at most 65535 bytes. -/
import Derived.Test.YtabioonijjibnabDoorMrkM
import Derived.Test.YtabioonijjibnabDoorStrB
namespace Go.Proofs.YtabioonijjibnabDoor
open Go.ChangeShapes Go.WideShapes Go.ChangeAt Go.RowKit
set_option linter.unusedVariables false
set_option maxRecDepth 100000
set_option linter.unusedSimpArgs false

set_option maxHeartbeats 1000000 in
theorem sLeaf_any (t : ByteArray) (w : World) (ht : t.size ≤ 65535) :
    Calls Tryd.prog 109 #[.string t] w fun e w' => e = .returned (.string (lf t)) ∧ Chg nob w w' := by
  have ht' : (t.size : Int) ≤ 65535 := by omega
  go_enter Tryd.func109, Tryd.ntmps109
  go_wp2_with (go_at_call 51; refine (sHash_any (lfT t) _ (by rw [lfT_size]; omega)).mono ?_; rintro e W1 ⟨rfl, k1⟩)
  go_ret
  exact ⟨rfl, k1⟩

set_option maxHeartbeats 1000000 in
theorem sNode_any (a b : ByteArray) (w : World) (ha : a.size ≤ 32767) (hb : b.size ≤ 32767) :
    Calls Tryd.prog 73 #[.string a, .string b] w fun e w' => e = .returned (.string (nd a b)) ∧ Chg nob w w' := by
  have ha' : (a.size : Int) ≤ 32767 := by omega
  have hb' : (b.size : Int) ≤ 32767 := by omega
  go_enter Tryd.func73, Tryd.ntmps73
  go_wp2_with (go_at_call 51; refine (sHash_any (ndT a b) _ (by rw [ndT_size]; omega)).mono ?_; rintro e W1 ⟨rfl, k1⟩)
  go_ret
  exact ⟨rfl, k1⟩

/-- A leaf's code, and its hash by it. -/
def lfc (t : ByteArray) : Int := if 65536 < t.size then 2 else if 64 < t.size then 4 else 0
def lfh (t : ByteArray) : ByteArray := if 64 < t.size then ⟨#[]⟩ else lf t

/-- A node's code, and its hash by it. -/
def ndc (a b : ByteArray) : Int := if 65536 < a.size ∨ 65536 < b.size then 2 else if a.size = 32 ∧ b.size = 32 then 0 else 8
def ndh (a b : ByteArray) : ByteArray := if a.size = 32 ∧ b.size = 32 then nd a b else ⟨#[]⟩

set_option maxHeartbeats 1000000 in
theorem sNodeHash_any (a b : ByteArray) (w : World) (hm : (a.size : Int) ≤ 9223372036854775807) (hk : (b.size : Int) ≤ 9223372036854775807) :
    Calls Tryd.prog 25 #[.string a, .string b] w fun e w' => e = .returned (.tuple #[.string (ndh a b), .int .i64 (ndc a b)]) ∧ Chg nob w w' := by
  by_cases h1 : 65536 < a.size ∨ 65536 < b.size
  · have e1 : ndh a b = ⟨#[]⟩ := if_neg (by omega)
    have e2 : ndc a b = 2 := if_pos h1
    rw [e1, e2]
    clear e1 e2
    by_cases ha : 65536 < a.size
    · have b1 : decide (65536 < (a.size : Int)) = true := by simp; omega
      clear h1
      go_enter Tryd.func25, Tryd.ntmps25
      go_wp2
      go_ret2
      exact ⟨rfl, Chg.refl _ _⟩
    · have b1 : decide (65536 < (a.size : Int)) = false := by simp; omega
      have b2 : decide (65536 < (b.size : Int)) = true := by simp; omega
      clear h1
      go_enter Tryd.func25, Tryd.ntmps25
      go_wp2
      go_ret2
      exact ⟨rfl, Chg.refl _ _⟩
  have b1 : decide (65536 < (a.size : Int)) = false := by simp; omega
  have b2 : decide (65536 < (b.size : Int)) = false := by simp; omega
  by_cases h2 : a.size = 32 ∧ b.size = 32
  · have e1 : ndh a b = nd a b := if_pos h2
    have e2 : ndc a b = 0 := by unfold ndc; rw [if_neg h1, if_pos h2]
    rw [e1, e2]
    clear e1 e2
    have c1 : ((a.size : Int) != 32) = false := by simp; omega
    have c2 : ((b.size : Int) != 32) = false := by simp; omega
    have H2 := hik h2
    clear h1 h2
    go_enter Tryd.func25, Tryd.ntmps25
    go_wp2_with (go_at_call 73; refine (sNode_any a b _ (by have := H2.out; omega) (by have := H2.out; omega)).mono ?_; rintro e W1 ⟨rfl, k1⟩)
    go_ret2
    exact ⟨rfl, k1⟩
  · have e1 : ndh a b = ⟨#[]⟩ := if_neg h2
    have e2 : ndc a b = 8 := by unfold ndc; rw [if_neg h1, if_neg h2]
    rw [e1, e2]
    clear e1 e2
    by_cases ha : a.size = 32
    · have c1 : ((a.size : Int) != 32) = false := by simp; omega
      have c2 : ((b.size : Int) != 32) = true := by simp; omega
      clear h1 h2 ha
      go_enter Tryd.func25, Tryd.ntmps25
      go_wp2
      go_ret2
      exact ⟨rfl, Chg.refl _ _⟩
    · have c1 : ((a.size : Int) != 32) = true := by simp; omega
      clear h1 h2 ha
      go_enter Tryd.func25, Tryd.ntmps25
      go_wp2
      go_ret2
      exact ⟨rfl, Chg.refl _ _⟩
end Go.Proofs.YtabioonijjibnabDoor
