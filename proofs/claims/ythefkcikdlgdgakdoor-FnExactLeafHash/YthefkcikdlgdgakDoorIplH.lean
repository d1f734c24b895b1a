/- What the program's texts and hashes of leaves and nodes are: contracts. Conditions: texts of at most 2 to the 40 bytes; the tables hold the shifts and the rounds' constants. -/
import Derived.Test.YthefkcikdlgdgakDoorMrkS
import Derived.Test.YthefkcikdlgdgakDoorKecK
namespace Go.Proofs.YthefkcikdlgdgakDoor
open Go.ChangeShapes Go.WideShapes Go.ChangeAt Go.RowKit
set_option linter.unusedVariables false
set_option linter.unusedSimpArgs false

theorem kh_text (s : ByteArray) (h : s.size ≤ 65536) : kh (zs s) s.size = hsh s := by unfold kh hsh; rw [if_neg (by omega)]

set_option maxHeartbeats 1000000 in
theorem hashOf_any (s : ByteArray) (w : World) (ht : Hid (Tabs w)) (hs : s.size ≤ 65536) :
    Calls Tryd.prog 23 #[.string s] w fun e w' => e = .returned (.string (hsh s)) ∧ Chg nob w w' := by
  obtain ⟨W0, cap0, hcv, HB0, HG0, hc0⟩ : ∃ W0 cap0, (convert 9 25 (.string s)).run Tryd.prog w = .ok (.slice (some ⟨w.heap.size, 0, none⟩) s.size cap0) W0 ∧ Hid (BRow W0 w.heap.size w.heap.size s.size cap0 (zs s)) ∧ Hid (Chg nob w W0) ∧ cap0 ≤ maxLen :=
    ⟨_, _, Go.Lib.run_convert_string_bytes w 9 25 5 s Tryd.underlying9 Tryd.underlying25 Tryd.underlying5, hik (BRow.of_string w 5 s), hik (chg_string w 5 s), grownCap_le_maxLen w s.size 0 5 (by unfold maxLen; omega)⟩
  have hc1 : (cap0 : Int) ≤ 9223372036854775807 := by unfold maxLen at hc0; omega
  have HE := hik (kh_text s hs)
  have HC1 := hik hc1
  have HS := hik hs
  clear hc0 hc1 hs
  go_enter Tryd.func23, Tryd.ntmps23
  go_wp2_with (go_at_call 10; refine (keccak256_any (some ⟨w.heap.size, 0, none⟩) s.size cap0 (zs s) _ (hik HB0.out.row) (hik (zs_B s)) (hik (ht.out.keep HG0.out)) (by have := HS.out; omega) HB0.out.le HC1.out).mono ?_; rintro e W1 ⟨rfl, k1⟩; have G1 := hik (HG0.out.trans k1); clear k1)
  go_ret
  exact ⟨by rw [HE.out]; rfl, G1.out⟩

set_option maxHeartbeats 1000000 in
theorem leafText_any (t : ByteArray) (w : World) (ht : (t.size : Int) ≤ 1099511627776) :
    Calls Tryd.prog 24 #[.string t] w fun e w' => e = .returned (.string (lfT t)) ∧ w = w' := by
  go_enter Tryd.func24, Tryd.ntmps24
  go_wp2
  go_ret
  exact ⟨rfl, rfl⟩

set_option maxHeartbeats 1000000 in
theorem leafHash_any (t : ByteArray) (w : World) (ht : Hid (Tabs w)) (hm : (t.size : Int) ≤ 9223372036854775807) :
    Calls Tryd.prog 13 #[.string t] w fun e w' => e = .returned (.tuple #[.string (lfh t), .int .i64 (lfc t)]) ∧ Chg nob w w' := by
  by_cases h1 : 65536 < t.size
  · have h1' : 65536 < (t.size : Int) := by omega
    have e1 : lfh t = ⟨#[]⟩ := if_pos (by omega)
    have e2 : lfc t = 2 := if_pos h1
    rw [e1, e2]
    go_enter Tryd.func13, Tryd.ntmps13
    go_wp2
    go_ret2
    exact ⟨rfl, Chg.refl _ _⟩
  have h1' : ¬ 65536 < (t.size : Int) := by omega
  by_cases h2 : 64 < t.size
  · have h2' : 64 < (t.size : Int) := by omega
    have e1 : lfh t = ⟨#[]⟩ := if_pos h2
    have e2 : lfc t = 4 := by unfold lfc; rw [if_neg h1, if_pos h2]
    rw [e1, e2]
    go_enter Tryd.func13, Tryd.ntmps13
    go_wp2
    go_ret2
    exact ⟨rfl, Chg.refl _ _⟩
  · have h2' : ¬ 64 < (t.size : Int) := by omega
    have e1 : lfh t = lf t := if_neg h2
    have e2 : lfc t = 0 := by unfold lfc; rw [if_neg h1, if_neg h2]
    rw [e1, e2]
    go_enter Tryd.func13, Tryd.ntmps13
    go_wp2_with (first | (go_at_call 24; refine (leafText_any t _ (by omega)).mono ?_; rintro e W1 ⟨rfl, hw⟩; subst hw) | (go_at_call 23; refine (hashOf_any (lfT t) _ ht (by rw [lfT_size]; omega)).mono ?_; rintro e W2 ⟨rfl, k2⟩))
    go_ret2
    exact ⟨rfl, k2⟩