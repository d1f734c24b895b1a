/- Several texts in one: What the program's hash of a text is: a contract. Conditions: a text of at most 65536 bytes; the tables hold the shifts and the rounds' constants. · What the program's texts and hashes of leaves and nodes are: contracts. Conditions: texts of at most 2 to the 40 bytes; the tables hold the shifts and the rounds' constants. -/
import Derived.Test.YtnpmhfhgnnhclarDoorBzai
import Derived.Test.YtnpmhfhgnnhclarDoorBzbe
import Derived.Test.YtnpmhfhgnnhclarDoorBzah
import Derived.Test.YtnpmhfhgnnhclarDoorBzap
namespace Go.Proofs.YtnpmhfhgnnhclarDoor
open Go.ChangeShapes Go.WideShapes Go.ChangeAt Go.RowKit
set_option linter.unusedVariables false
set_option maxRecDepth 100000
set_option linter.unusedSimpArgs false

theorem kh_text (s : ByteArray) (h : s.size ≤ 65536) : kh (zs s) s.size = hsh s := by unfold kh hsh; rw [if_neg (by omega)]

set_option maxHeartbeats 1000000 in
theorem hashOf_any (s : ByteArray) (w : World) (ht : Hid (Tabs w)) (hs : s.size ≤ 65536) :
    Calls Tryd.prog 70 #[.string s] w fun e w' => e = .returned (.string (hsh s)) ∧ Chg nob w w' := by
  obtain ⟨W0, cap0, hcv, HB0, HG0, hc0⟩ : ∃ W0 cap0, (convert 9 50 (.string s)).run Tryd.prog w = .ok (.slice (some ⟨w.heap.size, 0, none⟩) s.size cap0) W0 ∧ Hid (BRow W0 w.heap.size w.heap.size s.size cap0 (zs s)) ∧ Hid (Chg nob w W0) ∧ cap0 ≤ maxLen :=
    ⟨_, _, Go.Lib.run_convert_string_bytes w 9 50 5 s Tryd.underlying9 Tryd.underlying50 Tryd.underlying5, hik (BRow.of_string w 5 s), hik (chg_string w 5 s), grownCap_le_maxLen w s.size 0 5 (by unfold maxLen; omega)⟩
  have hc1 : (cap0 : Int) ≤ 9223372036854775807 := by unfold maxLen at hc0; omega
  have HE := hik (kh_text s hs)
  have HC1 := hik hc1
  have HS := hik hs
  clear hc0 hc1 hs
  go_enter Tryd.func70, Tryd.ntmps70
  go_wp2_with (go_at_call 82; refine (keccak256_any (some ⟨w.heap.size, 0, none⟩) s.size cap0 (zs s) _ (hik HB0.out.row) (hik (zs_B s)) (hik (ht.out.keep HG0.out)) (by have := HS.out; omega) HB0.out.le HC1.out).mono ?_; rintro e W1 ⟨rfl, k1⟩; have G1 := hik (HG0.out.trans k1); clear k1)
  go_ret
  exact ⟨by rw [HE.out]; rfl, G1.out⟩


end Go.Proofs.YtnpmhfhgnnhclarDoor

namespace Go.Proofs.YtnpmhfhgnnhclarDoor
open Go.ChangeShapes Go.WideShapes Go.ChangeAt Go.RowKit
set_option linter.unusedVariables false
set_option maxRecDepth 100000
set_option linter.unusedSimpArgs false

set_option maxHeartbeats 1000000 in
theorem leafText_any (t : ByteArray) (w : World) (ht : (t.size : Int) ≤ 1099511627776) :
    Calls Tryd.prog 71 #[.string t] w fun e w' => e = .returned (.string (lfT t)) ∧ w = w' := by
  go_enter Tryd.func71, Tryd.ntmps71
  go_wp2
  go_ret
  exact ⟨rfl, rfl⟩

set_option maxHeartbeats 1000000 in
theorem nodeText_any (a b : ByteArray) (w : World) (ha : (a.size : Int) ≤ 1099511627776) (hb : (b.size : Int) ≤ 1099511627776) :
    Calls Tryd.prog 90 #[.string a, .string b] w fun e w' => e = .returned (.string (ndT a b)) ∧ w = w' := by
  go_enter Tryd.func90, Tryd.ntmps90
  go_wp2
  go_ret
  exact ⟨rfl, rfl⟩


end Go.Proofs.YtnpmhfhgnnhclarDoor
