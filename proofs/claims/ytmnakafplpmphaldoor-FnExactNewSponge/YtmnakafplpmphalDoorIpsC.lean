/- What the program's copies of sources are, and its new sources: contracts. Conditions: rows that can be read, the tables hold the shifts and the rounds' constants. -/
import Derived.Test.YtmnakafplpmphalDoorOwnE
import Derived.Test.YtmnakafplpmphalDoorIpsW
import Derived.Test.YtmnakafplpmphalDoorSpsX
import Derived.Test.YtmnakafplpmphalDoorIpsA
import Derived.Test.YtmnakafplpmphalDoorHshI
import Derived.Lib.SliceRun
namespace Go.Proofs.YtmnakafplpmphalDoor
open Go.ChangeShapes Go.WideShapes Go.ChangeAt Go.RowKit
set_option linter.unusedVariables false
set_option maxRecDepth 100000
set_option linter.unusedSimpArgs false

set_option maxRecDepth 100000 in
set_option maxHeartbeats 1000000 in
theorem newSponge_any (label : ByteArray) (w : World) (ht : Hid (Tabs w)) (hm : (label.size : Int) ≤ 9223372036854775807) :
    Calls Tryd.prog 26 #[.string label] w fun e w' => SCAns w (lbc label.size) 0 (fun _ => 0) (fun _ => 0) 0 (lbS label) 0 e w' := by
  by_cases h1 : 65536 < label.size
  · have h1' : 65536 < (label.size : Int) := by omega
    rw [(lb_long h1).1, (lb_long h1).2]
    go_enter Tryd.func26, Tryd.ntmps26
    go_wp2
    exact bodyPost_ret (v := .tuple #[.agg #[.slice none 0 0, .int .i64 0, .string ⟨#[]⟩, .int .i64 0], .int .i64 2]) (by simp [results, Tryd.results26, go_sem]) rfl ⟨_, _, rfl, .inl rfl, (Chg.refl _ _).alloc _⟩
  have h1' : ¬ 65536 < (label.size : Int) := by omega
  by_cases h2 : 100 < label.size
  · have h2' : 100 < (label.size : Int) := by omega
    rw [(lb_range h1 h2).1, (lb_range h1 h2).2]
    go_enter Tryd.func26, Tryd.ntmps26
    go_wp2
    exact bodyPost_ret (v := .tuple #[.agg #[.slice none 0 0, .int .i64 0, .string ⟨#[]⟩, .int .i64 0], .int .i64 4]) (by simp [results, Tryd.results26, go_sem]) rfl ⟨_, _, rfl, .inl rfl, (Chg.refl _ _).alloc _⟩
  have h2' : ¬ 100 < (label.size : Int) := by omega
  rw [(lb_ok h2).1, (lb_ok h2).2]
  have hsz := nwT_in label (by omega)
  go_enter Tryd.func26, Tryd.ntmps26
  go_wp2_with (go_at_call 31; refine (hashOf_any (nwT label) _ (hik (ht.out.keep ((Chg.refl nob w).alloc _))) hsz).mono ?_; rintro e W1 ⟨he, k1⟩; have he : e = .returned (.string (nwS label)) := he; subst he; have G1 := hik (((Chg.refl nob w).alloc (.cells #[.slice none 0 0, .int .i64 0, .string ⟨#[]⟩, .int .i64 0] 45)).trans k1); have R1 := hik (rowIs_keep (row4_new w (.slice none 0 0) (.int .i64 0) (.string ⟨#[]⟩) (.int .i64 0) 45) k1); obtain ⟨hc1, hf1, hz1⟩ := kcell k1 (w.heap.size + 1) (by simp); clear k1)
  exact bodyPost_ret (v := .tuple #[.agg #[.slice none 0 0, .int .i64 0, .string (nwS label), .int .i64 0], .int .i64 0]) (by simp [results, Tryd.results26, go_sem, row4_s0 R1.out (.slice none 0 0), row4_s1 R1.out (.slice none 0 0) (.int .i64 0), row4_s2 R1.out (.slice none 0 0) (.int .i64 0) (.string (nwS label)), row4_s3 R1.out (.slice none 0 0) (.int .i64 0) (.string (nwS label)) (.int .i64 0)]) rfl ⟨_, _, rfl, .inl rfl, chg4_set G1.out _ (fun l => absurd l (by simp)) _ _ _ _⟩

end Go.Proofs.YtmnakafplpmphalDoor
