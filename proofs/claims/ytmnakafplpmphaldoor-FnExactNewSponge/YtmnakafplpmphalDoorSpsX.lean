/- What the model's own copies of sources are, and its new sources: contracts. Conditions: rows that can be read. -/
import Derived.Test.YtmnakafplpmphalDoorOwnE
import Derived.Test.YtmnakafplpmphalDoorSpsB
namespace Go.Proofs.YtmnakafplpmphalDoor
open Go.ChangeShapes Go.WideShapes Go.ChangeAt Go.RowKit
set_option linter.unusedVariables false
set_option maxRecDepth 100000
set_option linter.unusedSimpArgs false

theorem nwT_in (label : ByteArray) (h : label.size ≤ 100) : (nwT label).size ≤ 65536 := by rw [nwT_size]; omega
/-- The code of a label. -/
def lbc (n : Nat) : Int := if 65536 < n then 2 else if 100 < n then 4 else 0
/-- The state of a new source, or none. -/
def lbS (label : ByteArray) : ByteArray := if label.size ≤ 100 then nwS label else ⟨#[]⟩
theorem lb_long {label : ByteArray} (h : 65536 < label.size) : lbc label.size = 2 ∧ lbS label = ⟨#[]⟩ := ⟨if_pos h, if_neg (by omega)⟩
theorem lb_range {label : ByteArray} (h : ¬ 65536 < label.size) (h' : 100 < label.size) : lbc label.size = 4 ∧ lbS label = ⟨#[]⟩ := ⟨by unfold lbc; rw [if_neg h, if_pos h'], if_neg (by omega)⟩
theorem lb_ok {label : ByteArray} (h' : ¬ 100 < label.size) : lbc label.size = 0 ∧ lbS label = nwS label := ⟨by unfold lbc; rw [if_neg (by omega), if_neg h'], if_pos (by omega)⟩

/-- The code of a new script, and what it holds. -/
def scc (m : Nat) (len : Nat) (ok : Bool) : Int := if 65536 < m ∨ 4096 < len then 2 else if ok = false then 1 else if 100 < m ∨ len < 1 ∨ 64 < len then 4 else 0
def scn (code : Int) (len : Nat) : Nat := if code = 0 then len else 0
def scS (code : Int) (st : ByteArray) : ByteArray := if code = 0 then st else ⟨#[]⟩

set_option maxRecDepth 100000 in
set_option maxHeartbeats 1000000 in
theorem sNewSponge_any (label : ByteArray) (w : World) (hm : (label.size : Int) ≤ 9223372036854775807) :
    Calls Tryd.prog 25 #[.string label] w fun e w' => SCAns w (lbc label.size) 0 (fun _ => 0) (fun _ => 0) 0 (lbS label) 0 e w' := by
  by_cases h1 : 65536 < label.size
  · have h1' : 65536 < (label.size : Int) := by omega
    rw [(lb_long h1).1, (lb_long h1).2]
    go_enter Tryd.func25, Tryd.ntmps25
    go_wp2
    exact bodyPost_ret (v := .tuple #[.agg #[.slice none 0 0, .int .i64 0, .string ⟨#[]⟩, .int .i64 0], .int .i64 2]) (by simp [results, Tryd.results25, go_sem]) rfl ⟨_, _, rfl, .inl rfl, (Chg.refl _ _).alloc _⟩
  have h1' : ¬ 65536 < (label.size : Int) := by omega
  by_cases h2 : 100 < label.size
  · have h2' : 100 < (label.size : Int) := by omega
    rw [(lb_range h1 h2).1, (lb_range h1 h2).2]
    go_enter Tryd.func25, Tryd.ntmps25
    go_wp2
    exact bodyPost_ret (v := .tuple #[.agg #[.slice none 0 0, .int .i64 0, .string ⟨#[]⟩, .int .i64 0], .int .i64 4]) (by simp [results, Tryd.results25, go_sem]) rfl ⟨_, _, rfl, .inl rfl, (Chg.refl _ _).alloc _⟩
  have h2' : ¬ 100 < (label.size : Int) := by omega
  rw [(lb_ok h2).1, (lb_ok h2).2]
  go_enter Tryd.func25, Tryd.ntmps25
  go_wp2_with (go_at_call 50; refine (sNew_any label _ 0 0 _ (by omega)).mono ?_; rintro e W1 ⟨he, k1⟩; subst he; have G1 := hik ((((Chg.refl nob w).alloc (.cells #[.slice none 0 0, .int .i64 0, .string ⟨#[]⟩, .int .i64 0] 45)).alloc (.cells #[] 86)).trans k1); have R1 := hik (rowIs_keep (World.rowIs.alloc (row4_new w (.slice none 0 0) (.int .i64 0) (.string ⟨#[]⟩) (.int .i64 0) 45) (.cells #[] 86)) k1); obtain ⟨hc1, hf1, hz1⟩ := kcell k1 (w.heap.size + 1) (by simp); clear k1)
  exact bodyPost_ret (v := .tuple #[.agg #[.slice (some ⟨w.heap.size + 1, 0, none⟩) 0 0, .int .i64 0, .string (nwS label), .int .i64 0], .int .i64 0]) (by simp [results, Tryd.results25, go_sem, row4_s0 R1.out (.slice (some ⟨w.heap.size + 1, 0, none⟩) 0 0), row4_s1 R1.out (.slice (some ⟨w.heap.size + 1, 0, none⟩) 0 0) (.int .i64 0), row4_s2 R1.out (.slice (some ⟨w.heap.size + 1, 0, none⟩) 0 0) (.int .i64 0) (.string (nwS label)), row4_s3 R1.out (.slice (some ⟨w.heap.size + 1, 0, none⟩) 0 0) (.int .i64 0) (.string (nwS label)) (.int .i64 0)]) rfl ⟨_, _, rfl, .inl rfl, chg4_set G1.out _ (fun l => absurd l (by simp)) _ _ _ _⟩

end Go.Proofs.YtmnakafplpmphalDoor
