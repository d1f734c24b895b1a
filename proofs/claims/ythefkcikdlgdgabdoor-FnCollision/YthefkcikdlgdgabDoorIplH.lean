/- What the program's texts and hashes of leaves and nodes are: contracts. Conditions: texts of at most 2 to the 40 bytes; the tables hold the shifts and the rounds' constants. -/
import Derived.Test.YthefkcikdlgdgabDoorMrkS
import Derived.Test.YthefkcikdlgdgabDoorKecK
namespace Go.Proofs.YthefkcikdlgdgabDoor
open Go.ChangeShapes Go.WideShapes Go.ChangeAt Go.RowKit
set_option linter.unusedVariables false
set_option linter.unusedSimpArgs false

theorem kh_text (s : ByteArray) (h : s.size ≤ 65536) : kh (zs s) s.size = hsh s := by unfold kh hsh; rw [if_neg (by omega)]

set_option maxHeartbeats 1000000 in
theorem hashOf_any (s : ByteArray) (w : World) (ht : Hid (Tabs w)) (hs : s.size ≤ 65536) :
    Calls Tryd.prog 47 #[.string s] w fun e w' => e = .returned (.string (hsh s)) ∧ Chg nob w w' := by
  obtain ⟨W0, cap0, hcv, HB0, HG0, hc0⟩ : ∃ W0 cap0, (convert 9 22 (.string s)).run Tryd.prog w = .ok (.slice (some ⟨w.heap.size, 0, none⟩) s.size cap0) W0 ∧ Hid (BRow W0 w.heap.size w.heap.size s.size cap0 (zs s)) ∧ Hid (Chg nob w W0) ∧ cap0 ≤ maxLen :=
    ⟨_, _, Go.Lib.run_convert_string_bytes w 9 22 5 s Tryd.underlying9 Tryd.underlying22 Tryd.underlying5, hik (BRow.of_string w 5 s), hik (chg_string w 5 s), grownCap_le_maxLen w s.size 0 5 (by unfold maxLen; omega)⟩
  have hc1 : (cap0 : Int) ≤ 9223372036854775807 := by unfold maxLen at hc0; omega
  have HE := hik (kh_text s hs)
  have HC1 := hik hc1
  have HS := hik hs
  clear hc0 hc1 hs
  go_enter Tryd.func47, Tryd.ntmps47
  go_wp2_with (go_at_call 6; refine (keccak256_any (some ⟨w.heap.size, 0, none⟩) s.size cap0 (zs s) _ (hik HB0.out.row) (hik (zs_B s)) (hik (ht.out.keep HG0.out)) (by have := HS.out; omega) HB0.out.le HC1.out).mono ?_; rintro e W1 ⟨rfl, k1⟩; have G1 := hik (HG0.out.trans k1); clear k1)
  go_ret
  exact ⟨by rw [HE.out]; rfl, G1.out⟩

set_option maxHeartbeats 1000000 in
theorem leafText_any (t : ByteArray) (w : World) (ht : (t.size : Int) ≤ 1099511627776) :
    Calls Tryd.prog 48 #[.string t] w fun e w' => e = .returned (.string (lfT t)) ∧ w = w' := by
  go_enter Tryd.func48, Tryd.ntmps48
  go_wp2
  go_ret
  exact ⟨rfl, rfl⟩

set_option maxHeartbeats 1000000 in
theorem nodeText_any (a b : ByteArray) (w : World) (ha : (a.size : Int) ≤ 1099511627776) (hb : (b.size : Int) ≤ 1099511627776) :
    Calls Tryd.prog 49 #[.string a, .string b] w fun e w' => e = .returned (.string (ndT a b)) ∧ w = w' := by
  go_enter Tryd.func49, Tryd.ntmps49
  go_wp2
  go_ret
  exact ⟨rfl, rfl⟩

set_option maxHeartbeats 1000000 in
theorem leafHash_any (t : ByteArray) (w : World) (ht : Hid (Tabs w)) (hm : (t.size : Int) ≤ 9223372036854775807) :
    Calls Tryd.prog 20 #[.string t] w fun e w' => e = .returned (.tuple #[.string (lfh t), .int .i64 (lfc t)]) ∧ Chg nob w w' := by
  by_cases h1 : 65536 < t.size
  · have h1' : 65536 < (t.size : Int) := by omega
    have e1 : lfh t = ⟨#[]⟩ := if_pos (by omega)
    have e2 : lfc t = 2 := if_pos h1
    rw [e1, e2]
    go_enter Tryd.func20, Tryd.ntmps20
    go_wp2
    go_ret2
    exact ⟨rfl, Chg.refl _ _⟩
  have h1' : ¬ 65536 < (t.size : Int) := by omega
  by_cases h2 : 64 < t.size
  · have h2' : 64 < (t.size : Int) := by omega
    have e1 : lfh t = ⟨#[]⟩ := if_pos h2
    have e2 : lfc t = 4 := by unfold lfc; rw [if_neg h1, if_pos h2]
    rw [e1, e2]
    go_enter Tryd.func20, Tryd.ntmps20
    go_wp2
    go_ret2
    exact ⟨rfl, Chg.refl _ _⟩
  · have h2' : ¬ 64 < (t.size : Int) := by omega
    have e1 : lfh t = lf t := if_neg h2
    have e2 : lfc t = 0 := by unfold lfc; rw [if_neg h1, if_neg h2]
    rw [e1, e2]
    go_enter Tryd.func20, Tryd.ntmps20
    go_wp2_with (first | (go_at_call 48; refine (leafText_any t _ (by omega)).mono ?_; rintro e W1 ⟨rfl, hw⟩; subst hw) | (go_at_call 47; refine (hashOf_any (lfT t) _ ht (by rw [lfT_size]; omega)).mono ?_; rintro e W2 ⟨rfl, k2⟩))
    go_ret2
    exact ⟨rfl, k2⟩

set_option maxHeartbeats 1000000 in
theorem nodeHash_any (a b : ByteArray) (w : World) (ht : Hid (Tabs w)) (hm : (a.size : Int) ≤ 9223372036854775807) (hk : (b.size : Int) ≤ 9223372036854775807) :
    Calls Tryd.prog 21 #[.string a, .string b] w fun e w' => e = .returned (.tuple #[.string (ndh a b), .int .i64 (ndc a b)]) ∧ Chg nob w w' := by
  by_cases h1 : 65536 < a.size ∨ 65536 < b.size
  · have e1 : ndh a b = ⟨#[]⟩ := if_neg (by omega)
    have e2 : ndc a b = 2 := if_pos h1
    rw [e1, e2]
    clear e1 e2
    by_cases ha : 65536 < a.size
    · have b1 : decide (65536 < (a.size : Int)) = true := by simp; omega
      clear h1
      go_enter Tryd.func21, Tryd.ntmps21
      go_wp2
      go_ret2
      exact ⟨rfl, Chg.refl _ _⟩
    · have b1 : decide (65536 < (a.size : Int)) = false := by simp; omega
      have b2 : decide (65536 < (b.size : Int)) = true := by simp; omega
      clear h1
      go_enter Tryd.func21, Tryd.ntmps21
      go_wp2
      go_ret2
      exact ⟨rfl, Chg.refl _ _⟩
  have b1 : decide (65536 < (a.size : Int)) = false := by simp; omega
  have b2 : decide (65536 < (b.size : Int)) = false := by simp; omega
  by_cases h2 : a.size = 32 ∧ b.size = 32
  · have e1 : ndh a b = nd a b := if_pos h2
    have e2 : ndc a b = 0 := by unfold ndc; rw [if_neg h1, if_pos h2]
    rw [e1, e2]
    clear e1 e2
    have c1 : ((a.size : Int) != 32) = false := by simp; omega
    have c2 : ((b.size : Int) != 32) = false := by simp; omega
    have H2 := hik h2
    clear h1 h2
    go_enter Tryd.func21, Tryd.ntmps21
    go_wp2_with (first | (go_at_call 49; refine (nodeText_any a b _ (by have := H2.out; omega) (by have := H2.out; omega)).mono ?_; rintro e W1 ⟨rfl, hw⟩; subst hw) | (go_at_call 47; refine (hashOf_any (ndT a b) _ ht (by have := H2.out; rw [ndT_size]; omega)).mono ?_; rintro e W2 ⟨rfl, k2⟩))
    go_ret2
    exact ⟨rfl, k2⟩
  · have e1 : ndh a b = ⟨#[]⟩ := if_neg h2
    have e2 : ndc a b = 8 := by unfold ndc; rw [if_neg h1, if_neg h2]
    rw [e1, e2]
    clear e1 e2
    by_cases ha : a.size = 32
    · have c1 : ((a.size : Int) != 32) = false := by simp; omega
      have c2 : ((b.size : Int) != 32) = true := by simp; omega
      clear h1 h2 ha
      go_enter Tryd.func21, Tryd.ntmps21
      go_wp2
      go_ret2
      exact ⟨rfl, Chg.refl _ _⟩
    · have c1 : ((a.size : Int) != 32) = true := by simp; omega
      clear h1 h2 ha
      go_enter Tryd.func21, Tryd.ntmps21
      go_wp2
      go_ret2
      exact ⟨rfl, Chg.refl _ _⟩
end Go.Proofs.YthefkcikdlgdgabDoor
