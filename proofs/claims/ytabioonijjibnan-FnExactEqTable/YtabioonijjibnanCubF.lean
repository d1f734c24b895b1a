/- What the program's tables by value answer: cubeFrom, list, onTheWayTo, bound: contracts. Conditions: elements of the greater field, rows that can be read, sizes of at most 64. -/
import Derived.Test.YtabioonijjibnanCubM
import Derived.Laws.Cover3
namespace Go.Proofs.Ytabioonijjibnan
open Go.ChangeShapes Go.WideShapes Go.ChangeAt Go.RowKit
set_option linter.unusedVariables false
set_option maxRecDepth 100000
set_option linter.unusedSimpArgs false

set_option maxHeartbeats 1000000 in
theorem clone_any (b o n cap : Nat) (t : Nat → El) (w : World) (h : Hid (PairE w (some ⟨b, o, none⟩) n t)) (hn : n ≤ 64) : Calls Try.prog 60 #[.slice (some ⟨b, o, none⟩) n cap] w fun e w' => SlAns w n t e w' := by
  obtain ⟨i0, hi, hz0, hz1, hz2⟩ := info_parts infoExt
  have HI := hik hi
  have HZ0 := hik hz0
  have HZ1 := hik hz1
  have HZ2 := hik hz2
  clear hi hz0 hz1 hz2
  have hnil : ∀ W, (binOp .eql 26 (.slice (some ⟨b, o, none⟩) n cap) (.slice none 0 0)).run Try.prog W = .ok (.bool false) W := fun W => by
    have := run_equal_slice_nil (P := Try.prog) W 26 47 (some ⟨b, o, none⟩) n cap Try.underlying26
    simp [binOp, this]
  go_enter Try.func60, Try.ntmps60
  go_wp2_with (at_builtin; refine wpList_append_pairs _ (.tmp 5) (.tmp 6) 26 rfl rfl i0 Try.underlying26 HI.out HZ0.out HZ1.out HZ2.out w.heap.size (by simp) rfl (some ⟨b, o, none⟩) n cap (cA t) (cB t) rfl (PairE.keep h.out ((Chg.refl nob w).alloc _)) (by omega) ?_)
  intro c' cap' W1 ho hc hcm k1
  have O1 := hik (OwnE.low ho (B' := w.heap.size) (by simp))
  have G1 := hik (((Chg.refl nob w).alloc _).trans k1)
  clear ho k1
  go_wp2
  go_ret
  exact ⟨c', cap', rfl, hc, hcm, O1.out, G1.out⟩

set_option maxHeartbeats 1000000 in
theorem list_any (s : Nat) (t : Nat → El) (w : World) (hs : s ≤ 64) : Calls Try.prog 45 #[.agg (cb s t)] w fun e w' => SlAns w s t e w' := by
  have hs' : (s : Int) ≤ 64 := by omega
  have hs0 : ¬ (s : Int) < 0 := by omega
  have HC := hik (Cub.new w s t)
  have c0 := HC.out.c
  go_enter Try.func45, Try.ntmps45
  go_wp2_with fail
  refine (clone_any _ _ _ _ t _ (hik (Cub.pairs HC.out hs)) hs).mono ?_
  rintro e W1 ⟨c, cap, rfl, h1, h2, ho, k1⟩
  have O1 := hik (OwnE.low ho (B' := w.heap.size) (by simp))
  have G1 := hik (((Chg.refl nob w).alloc _).trans k1)
  clear ho k1
  go_wp2
  go_ret
  exact ⟨c, cap, rfl, h1, h2, O1.out, G1.out⟩
end Go.Proofs.Ytabioonijjibnan
