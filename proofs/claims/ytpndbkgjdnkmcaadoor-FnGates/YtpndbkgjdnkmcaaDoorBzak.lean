/- Several texts in one: What the model's functions on the greater field answer: contracts. Conditions: those of each theorem. · What the model's norm, inverse and power answer, and the laws' own helpers on elements: contracts. Conditions: those of each theorem. -/
import Derived.Test.YtpndbkgjdnkmcaaDoorBzai
namespace Go.Proofs.YtpndbkgjdnkmcaaDoor
open Go.ChangeShapes Go.WideShapes Go.ChangeAt Go.RowKit
set_option linter.unusedVariables false
set_option linter.unusedSimpArgs false


end Go.Proofs.YtpndbkgjdnkmcaaDoor

namespace Go.Proofs.YtpndbkgjdnkmcaaDoor
open Go.ChangeShapes Go.WideShapes Go.ChangeAt Go.RowKit
set_option linter.unusedVariables false
set_option linter.unusedSimpArgs false

/-- As PM, a block between. -/
structure PN (w W : World) (t : TypeId) (x1 x2 y1 y2 : Int) : Prop where
  rx : W.rowIs w.heap.size t 2 (pi2 x1 x2)
  rr : W.rowIs (w.heap.size + 1) t 2 (pi2 0 0)
  ry : W.rowIs (w.heap.size + 1 + 1 + 1) t 2 (pi2 y1 y2)
  chg : Chg nob w W
  size : w.heap.size + 4 ≤ W.heap.size
theorem PN.keep {w W W' : World} {t : TypeId} {x1 x2 y1 y2 : Int} (h : PN w W t x1 x2 y1 y2) (k : Chg nob W W') : PN w W' t x1 x2 y1 y2 :=
  ⟨rowIs_keep h.rx k, rowIs_keep h.rr k, rowIs_keep h.ry k, h.chg.trans k, Nat.le_trans h.size k.size⟩
theorem PN.new (w : World) (t : TypeId) (x1 x2 y1 y2 : Int) : PN w ((((w.alloc (.cells #[.int .i64 x1, .int .i64 x2] t)).alloc (.cells #[.int .i64 0, .int .i64 0] t)).alloc (.cells #[.int .i64 y1, .int .i64 y2] t)).alloc (.cells #[.int .i64 y1, .int .i64 y2] t)) t x1 x2 y1 y2 :=
  ⟨(((row2_new w _ _ t).alloc _).alloc _).alloc _, by have h := ((row2_new (w.alloc (.cells #[.int .i64 x1, .int .i64 x2] t)) (.int .i64 0) (.int .i64 0) t).alloc (.cells #[.int .i64 y1, .int .i64 y2] t)).alloc (.cells #[.int .i64 y1, .int .i64 y2] t); simpa [pi2] using h,
   by have h := row2_new (((w.alloc (.cells #[.int .i64 x1, .int .i64 x2] t)).alloc (.cells #[.int .i64 0, .int .i64 0] t)).alloc (.cells #[.int .i64 y1, .int .i64 y2] t)) (.int .i64 y1) (.int .i64 y2) t; simpa [pi2] using h, ((((Chg.refl _ _).alloc _).alloc _).alloc _).alloc _, by simp⟩


end Go.Proofs.YtpndbkgjdnkmcaaDoor
