/- What the program's interpolate does to a list of its own, and what its copy of a list is: contracts. Conditions: a block of the call's own, 2 to the m elements, at most 512. -/
import Derived.Test.YtmcdkmohjmcjbaoEvlX
import Derived.Test.YtmcdkmohjmcjbaoWrdX
import Derived.Laws.Cover3
namespace Go.Proofs.Ytmcdkmohjmcjbao
open Go.ChangeShapes Go.WideShapes Go.ChangeAt Go.RowKit
set_option linter.unusedVariables false
set_option maxRecDepth 100000
set_option linter.unusedSimpArgs false

theorem nbv9 {k : Nat} (h : k < 2130706433) : (El.nb k).v.1 = (k : Int) := by simp only [El.nb]; omega
theorem nbw9 (k : Nat) : (El.nb k).v.2 = 0 := rfl
theorem inv9 (j : Nat) (hj : j < 2130706433) (w : World) : Calls Try.prog 71 #[.agg #[.int .i64 (j : Int), .int .i64 0]] w fun e w' => e = .returned (.agg #[.int .i64 (El.inv (El.nb j)).v.1, .int .i64 (El.inv (El.nb j)).v.2]) ∧ Chg nob w w' := by
  have h := extInv_any (El.nb j).v.1 (El.nb j).v.2 w (El.nb j).lo1 (El.nb j).hi1 (El.nb j).lo2 (El.nb j).hi2
  have e1 : (El.inv (El.nb j)).v.1 = Fld.iA (El.nb j).v.1 (El.nb j).v.2 := rfl
  have e2 : (El.inv (El.nb j)).v.2 = Fld.iB (El.nb j).v.1 (El.nb j).v.2 := rfl
  rw [← e1, ← e2, nbv9 hj, nbw9] at h
  exact h
/-- The first k of a list times y. -/
def scE (T : Nat → El) (y : El) (k i : Nat) : El := if i < k then El.ml (T i) y else T i
theorem scE_step (T : Nat → El) (y : El) (k i : Nat) : upE (scE T y k) k (El.ml (T k) y) i = scE T y (k + 1) i := by
  unfold upE scE
  by_cases e : i = k
  · subst e; rw [if_pos rfl, if_pos (by omega)]
  · rw [if_neg e]
    by_cases h : i < k
    · rw [if_pos h, if_pos (by omega)]
    · rw [if_neg h, if_neg (by omega)]
theorem scE_at (T : Nat → El) (y : El) (k : Nat) : scE T y k k = T k := by unfold scE; rw [if_neg (by omega)]

set_option maxHeartbeats 1000000 in
theorem clone9_any (c : Option Addr) (n cap : Nat) (t : Nat → El) (w : World) (h : Hid (PairE w c n t)) (hn1 : 1 ≤ n) (hn : n ≤ 4096) : Calls Try.prog 62 #[.slice c n cap] w fun e w' => SlAns w n t e w' := by
  obtain ⟨b, o, ec, _, _, _⟩ := PairE.at_ h.out (show 0 < n by omega)
  subst ec
  obtain ⟨i0, hi, hz0, hz1, hz2⟩ := info_parts infoExt
  have HI := hik hi
  have HZ0 := hik hz0
  have HZ1 := hik hz1
  have HZ2 := hik hz2
  clear hi hz0 hz1 hz2
  have hnil : ∀ W, (binOp .eql 28 (.slice (some ⟨b, o, none⟩) n cap) (.slice none 0 0)).run Try.prog W = .ok (.bool false) W := fun W => by
    have := run_equal_slice_nil (P := Try.prog) W 28 25 (some ⟨b, o, none⟩) n cap Try.underlying28
    simp [binOp, this]
  go_enter Try.func62, Try.ntmps62
  go_wp2_with (at_builtin; refine wpList_append_pairs _ (.tmp 5) (.tmp 6) 28 rfl rfl i0 Try.underlying28 HI.out HZ0.out HZ1.out HZ2.out w.heap.size (by simp) rfl (some ⟨b, o, none⟩) n cap (cA t) (cB t) rfl (PairE.keep h.out ((Chg.refl nob w).alloc _)) (by omega) ?_)
  intro c' cap' W1 ho hc hcm k1
  have O1 := hik (OwnE.low ho (B' := w.heap.size) (by simp))
  have G1 := hik (((Chg.refl nob w).alloc _).trans k1)
  clear ho k1
  go_wp2
  go_ret
  exact ⟨c', cap', rfl, hc, hcm, O1.out, G1.out⟩
end Go.Proofs.Ytmcdkmohjmcjbao
