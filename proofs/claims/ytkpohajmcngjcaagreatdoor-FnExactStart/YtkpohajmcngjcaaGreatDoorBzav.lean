/- Several texts in one: What the model's own copies of sources are, and its new sources: contracts. Conditions: rows that can be read. · What the model's sources are behind what they take in: contracts. Conditions: rows that can be read. · What the model draws: contracts. Conditions: rows that can be read; a right source. · What the model draws, whatever draws: contracts. Conditions: rows that can be read; a right source with draws left. -/
import Derived.Test.YtkpohajmcngjcaaGreatDoorBzan
import Derived.Test.YtkpohajmcngjcaaGreatDoorBzaq
import Derived.Test.YtkpohajmcngjcaaGreatDoorBzao
import Derived.Deep.RegionHeld3
import Derived.BigRegion
import Derived.Test.YtkpohajmcngjcaaGreatDoorBzaz
namespace Go.Proofs.YtkpohajmcngjcaaGreatDoor
open Go.ChangeShapes Go.WideShapes Go.ChangeAt Go.RowKit
set_option linter.unusedVariables false
set_option maxRecDepth 100000
set_option linter.unusedSimpArgs false

set_option maxRecDepth 100000 in
set_option maxHeartbeats 1000000 in
theorem sOwn_any (c : Option Addr) (n cap : Nat) (f g : Nat → Int) (at' : Int) (st : ByteArray) (ct : Int) (w : World) (h : Hid (PairV w c n f g)) (hn : n ≤ 1099511627776) :
    Calls Tryz.prog 33 #[.agg #[.slice c n cap, .int .i64 at', .string st, .int .i64 ct]] w fun e w' => SrAns w n f g at' st ct e w' := by
  obtain ⟨i0, hi, hz0, hz1, hz2⟩ := info_parts infoExt
  have HI := hik hi
  have HZ0 := hik hz0
  have HZ1 := hik hz1
  have HZ2 := hik hz2
  clear hi hz0 hz1 hz2
  go_enter Tryz.func33, Tryz.ntmps33
  go_wp2_with (at_builtin; refine wpList_append_pairs _ (.tmp 3) (.tmp 5) 33 rfl rfl i0 Tryz.underlying33 HI.out HZ0.out HZ1.out HZ2.out (w.heap.size + 1 + 1) (by simp) rfl c n cap f g rfl (h.out.keep ((((Chg.refl nob w).alloc _).alloc _).alloc _)) hn ?_)
  intro c1 cap1 W1 ho hle hm k1
  have R0 := hik (rowIs_keep (World.rowIs.alloc (World.rowIs.alloc (row4_new w (.slice c n cap) (.int .i64 at') (.string st) (.int .i64 ct) 35) (.cells #[.slice none 0 0, .int .i64 0, .string ⟨#[]⟩, .int .i64 0] 35)) (.cells #[] 62)) k1)
  have R1 := hik (rowIs_keep (World.rowIs.alloc (row4_new (w.alloc (.cells #[.slice c n cap, .int .i64 at', .string st, .int .i64 ct] 35)) (.slice none 0 0) (.int .i64 0) (.string ⟨#[]⟩) (.int .i64 0) 35) (.cells #[] 62)) k1)
  have G1 := hik (((((Chg.refl nob w).alloc (.cells #[.slice c n cap, .int .i64 at', .string st, .int .i64 ct] 35)).alloc (.cells #[.slice none 0 0, .int .i64 0, .string ⟨#[]⟩, .int .i64 0] 35)).alloc (.cells #[] 62)).trans k1)
  have HO := hik ho
  have y0 : W1.cell? ⟨w.heap.size, 0, none⟩ = some (.slice c n cap) := R0.out.cell (by omega)
  obtain ⟨hc1, hf1, hz1⟩ := kcell k1 (w.heap.size + 2) (by simp)
  clear k1 ho hle hm HI HZ0 HZ1 HZ2
  go_wp2
  have R2 : Hid ((W1.setCell ⟨w.heap.size, 0, none⟩ (.slice c1 n cap1)).rowIs (w.heap.size + 1) 35 4 (pv4 (.slice none 0 0) (.int .i64 0) (.string ⟨#[]⟩) (.int .i64 0))) := hik (World.rowIs.setOther (by simpa using R1.out) (by simp) _)
  exact bodyPost_ret (v := .agg #[.slice c1 n cap1, .int .i64 at', .string st, .int .i64 ct]) (by simp [results, Tryz.results33, go_sem, row4_s0 R2.out (.slice c1 n cap1), row4_s1 R2.out (.slice c1 n cap1) (.int .i64 at'), row4_s2 R2.out (.slice c1 n cap1) (.int .i64 at') (.string st), row4_s3 R2.out (.slice c1 n cap1) (.int .i64 at') (.string st) (.int .i64 ct)]) rfl ⟨_, _, rfl, ((HO.out.chg (P := fun b => b < w.heap.size + 2) (chg4_set ((Chg.refl _ W1).setCell (p := ⟨w.heap.size, 0, none⟩) (fun _ => (by show w.heap.size < w.heap.size + 2; omega)) _) _ (fun _ => (by show w.heap.size + 1 < w.heap.size + 2; omega)) _ _ _ _) (fun b hb _ hp => (by first | omega | (simp at hb; omega)))).low (B' := w.heap.size) (by first | omega | (simp; omega))), chg4_set (G1.out.setCell (p := ⟨w.heap.size, 0, none⟩) (fun l => absurd l (by simp)) _) _ (fun l => absurd l (by simp)) _ _ _ _⟩


end Go.Proofs.YtkpohajmcngjcaaGreatDoor

namespace Go.Proofs.YtkpohajmcngjcaaGreatDoor
open Go.ChangeShapes Go.WideShapes Go.ChangeAt Go.RowKit
set_option linter.unusedVariables false
set_option maxRecDepth 100000
set_option linter.unusedSimpArgs false


end Go.Proofs.YtkpohajmcngjcaaGreatDoor

namespace Go.Proofs.YtkpohajmcngjcaaGreatDoor
open Go.ChangeShapes Go.WideShapes Go.ChangeAt Go.RowKit
set_option linter.unusedVariables false
set_option maxRecDepth 100000
set_option linter.unusedSimpArgs false


end Go.Proofs.YtkpohajmcngjcaaGreatDoor

namespace Go.Proofs.YtkpohajmcngjcaaGreatDoor
open Go.ChangeShapes Go.WideShapes Go.ChangeAt Go.RowKit
set_option linter.unusedVariables false
set_option maxRecDepth 100000
set_option linter.unusedSimpArgs false


end Go.Proofs.YtkpohajmcngjcaaGreatDoor
