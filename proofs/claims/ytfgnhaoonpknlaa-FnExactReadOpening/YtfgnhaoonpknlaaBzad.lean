/- Several texts in one: What the greater field's functions answer, and those of its model: contracts. Conditions: those of each theorem. · What the greater field's exported functions answer, whatever the numbers: contracts. No condition but those that are stated. -/
import Derived.Test.YtfgnhaoonpknlaaBzaa
import Derived.Test.YtfgnhaoonpknlaaBzab
import Derived.Test.YtfgnhaoonpknlaaBzac
import Derived.RegionTactic
import Derived.ChangeAlike
import Derived.BigRegion
import Derived.Deep.QuietTactic
import Derived.BigQuiet
import Derived.Deep.RegionHeld3
namespace Go.Proofs.Ytfgnhaoonpknlaa
open Go.ChangeShapes Go.WideShapes Go.ChangeAt Go.RowKit
set_option linter.unusedVariables false

/-- Both parts are numbers of the field. -/
def eok (a b : Int) : Bool := fok a && fok b
theorem eok_a {a b : Int} (h : eok a b = true) : fok a = true := by unfold eok at h; cases h1 : fok a <;> simp [h1] at h ⊢
theorem eok_b {a b : Int} (h : eok a b = true) : fok b = true := by unfold eok at h; cases h1 : fok b <;> simp [h1] at h ⊢

set_option maxHeartbeats 400000 in
theorem extOK_any (a b : Int) (w : World) :
    Calls Try.prog 47 #[.agg #[.int .i64 a, .int .i64 b]] w fun e w' => e = .returned (.bool (eok a b)) ∧ Chg nob w w' := by
  cases ha : fok a
  · go_enter Try.func47, Try.ntmps47
    go_wp2_with (go_at_call 62; refine (fieldOK_any _ _).mono ?_; rintro e w' ⟨rfl, rfl⟩)
    go_ret
    exact ⟨ret_bool (by simp [eok, ha]), (Chg.refl _ _).alloc _⟩
  · cases hb : fok b
    all_goals
      go_enter Try.func47, Try.ntmps47
      go_wp2_with (go_at_call 62; refine (fieldOK_any _ _).mono ?_; rintro e w' ⟨rfl, rfl⟩)
      go_ret
      exact ⟨ret_bool (by simp [eok, ha, hb]), (Chg.refl _ _).alloc _⟩

set_option maxHeartbeats 400000 in
theorem minus_any (a b c d : Int) (w : World) (a0 : 0 ≤ a) (a1 : a < 2130706433) (b0 : 0 ≤ b) (b1 : b < 2130706433) (c0 : 0 ≤ c) (c1 : c < 2130706433) (d0 : 0 ≤ d) (d1 : d < 2130706433) :
    Calls Try.prog 69 #[.agg #[.int .i64 a, .int .i64 b], .agg #[.int .i64 c, .int .i64 d]] w fun e w' => e = .returned (.agg #[.int .i64 ((a + 2130706433 - c) % 2130706433), .int .i64 ((b + 2130706433 - d) % 2130706433)]) ∧ Chg nob w w' := by
  go_enter Try.func69, Try.ntmps69
  go_wp2
  exact bodyPost_ret (v := .agg #[.int .i64 ((a + 2130706433 - c) % 2130706433), .int .i64 ((b + 2130706433 - d) % 2130706433)]) (by simp [results, Try.results69, go_sem]) rfl ⟨rfl, (by repeat (first | with_reducible exact Chg.refl _ _ | with_reducible refine Chg.alloc ?_ _ | with_reducible refine Chg.drewN ?_ _ | with_reducible refine Chg.drew ?_ | with_reducible refine Chg.setCell ?_ (fun l => absurd l (by dsimp only; omega)) _ | with_reducible refine Chg.trans ?_ (by assumption)))⟩

set_option maxHeartbeats 1000000 in
theorem times_any (a b c d : Int) (w : World) (a0 : 0 ≤ a) (a1 : a < 2130706433) (b0 : 0 ≤ b) (b1 : b < 2130706433) (c0 : 0 ≤ c) (c1 : c < 2130706433) (d0 : 0 ≤ d) (d1 : d < 2130706433) :
    Calls Try.prog 68 #[.agg #[.int .i64 a, .int .i64 b], .agg #[.int .i64 c, .int .i64 d]] w fun e w' => e = .returned (.agg #[.int .i64 (Fld.mA a b c d), .int .i64 (Fld.mB a b c d)]) ∧ Chg nob w w' := by
  have m1 := Fld.mul_bound a c a0 a1 c0 c1
  have m2 := Fld.mul_bound b d b0 b1 d0 d1
  have m3 := Fld.mul_bound a d a0 a1 d0 d1
  have m4 := Fld.mul_bound b c b0 b1 c0 c1
  go_enter Try.func68, Try.ntmps68
  go_wp2
  go_quiet (fail)
  go_wp2
  exact bodyPost_ret (v := .agg #[.int .i64 (Fld.mA a b c d), .int .i64 (Fld.mB a b c d)]) (by simp [results, Try.results68, go_sem, Fld.mA, Fld.mB]) rfl ⟨rfl, (by repeat (first | with_reducible exact Chg.refl _ _ | with_reducible refine Chg.alloc ?_ _ | with_reducible refine Chg.drewN ?_ _ | with_reducible refine Chg.drew ?_ | with_reducible refine Chg.setCell ?_ (fun l => absurd l (by dsimp only; omega)) _ | with_reducible refine Chg.trans ?_ (by assumption)))⟩

/-- What a power keeps in memory: the element, the result's place, the product. -/
structure PM (w W : World) (t : TypeId) (x1 x2 y1 y2 : Int) : Prop where
  rx : W.rowIs w.heap.size t 2 (pi2 x1 x2)
  rr : W.rowIs (w.heap.size + 1) t 2 (pi2 0 0)
  ry : W.rowIs (w.heap.size + 1 + 1) t 2 (pi2 y1 y2)
  chg : Chg nob w W
  size : w.heap.size + 3 ≤ W.heap.size
theorem PM.keep {w W W' : World} {t : TypeId} {x1 x2 y1 y2 : Int} (h : PM w W t x1 x2 y1 y2) (k : Chg nob W W') : PM w W' t x1 x2 y1 y2 :=
  ⟨rowIs_keep h.rx k, rowIs_keep h.rr k, rowIs_keep h.ry k, h.chg.trans k, Nat.le_trans h.size k.size⟩
theorem PM.new (w : World) (t : TypeId) (x1 x2 y1 y2 : Int) : PM w (((w.alloc (.cells #[.int .i64 x1, .int .i64 x2] t)).alloc (.cells #[.int .i64 0, .int .i64 0] t)).alloc (.cells #[.int .i64 y1, .int .i64 y2] t)) t x1 x2 y1 y2 :=
  ⟨((row2_new w _ _ t).alloc _).alloc _, by have h := (row2_new (w.alloc (.cells #[.int .i64 x1, .int .i64 x2] t)) (.int .i64 0) (.int .i64 0) t).alloc (.cells #[.int .i64 y1, .int .i64 y2] t); simpa [pi2] using h,
   by have h := row2_new ((w.alloc (.cells #[.int .i64 x1, .int .i64 x2] t)).alloc (.cells #[.int .i64 0, .int .i64 0] t)) (.int .i64 y1) (.int .i64 y2) t; simpa [pi2] using h, (((Chg.refl _ _).alloc _).alloc _).alloc _, by simp⟩


end Go.Proofs.Ytfgnhaoonpknlaa

namespace Go.Proofs.Ytfgnhaoonpknlaa
open Go.ChangeShapes Go.WideShapes Go.ChangeAt Go.RowKit
set_option linter.unusedVariables false
set_option linter.unusedSimpArgs false

/-- What is answered of two elements. -/
def eb (a b c d v : Int) : Int := if eok a b && eok c d then v else 0
/-- What is answered of one. -/
def e1 (a b v : Int) : Int := if eok a b then v else 0


end Go.Proofs.Ytfgnhaoonpknlaa
