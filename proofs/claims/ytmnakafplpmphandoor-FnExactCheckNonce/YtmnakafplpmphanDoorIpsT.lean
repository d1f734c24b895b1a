/- What the program's sources take in: a contract. Conditions: a state of 32 bytes, texts of at most 65536 bytes, rows that can be read; the tables hold the shifts and the rounds' constants. -/
import Derived.Test.YtmnakafplpmphanDoorIpsC
import Derived.Deep.RegionWith
import Derived.BigRegion
namespace Go.Proofs.YtmnakafplpmphanDoor
open Go.ChangeShapes Go.WideShapes Go.ChangeAt Go.RowKit
set_option linter.unusedVariables false
set_option maxRecDepth 100000
set_option linter.unusedSimpArgs false

/-- A text as bytes. -/
theorem conv_text (s : ByteArray) (w : World) (hs : s.size ≤ 1048576) : ∃ (W0 : World) (cap0 : Nat), (convert 9 52 (.string s)).run Tryd.prog w = .ok (.slice (some ⟨w.heap.size, 0, none⟩) s.size cap0) W0 ∧ Hid (BRow W0 w.heap.size w.heap.size s.size cap0 (zs s)) ∧ Hid (Chg nob w W0) ∧ (cap0 : Int) ≤ 9223372036854775807 :=
  ⟨_, _, Go.Lib.run_convert_string_bytes w 9 52 5 s Tryd.underlying9 Tryd.underlying52 Tryd.underlying5, hik (BRow.of_string w 5 s), hik (chg_string w 5 s), by
    have h := grownCap_le_maxLen w s.size 0 5 (by unfold maxLen; omega)
    unfold maxLen at h
    omega⟩