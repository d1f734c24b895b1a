/- Several texts in one: What the model's functions on the greater field answer: contracts. Conditions: those of each theorem. · What the model's norm, inverse and power answer, and the laws' own helpers on elements: contracts. Conditions: those of each theorem. · Words on memory: what is there stays there. No program is named here. · Helpers of the exact laws over elements: what is kept in memory between their statements. No condition but those that are stated. -/
import Derived.Test.YtppiilbcnkphbaaGreatBzab
import Derived.WalkKit
import Derived.Deep.CutRange
namespace Go.Proofs.YtppiilbcnkphbaaGreat
open Go.ChangeShapes Go.WideShapes Go.ChangeAt Go.RowKit
set_option linter.unusedVariables false
set_option linter.unusedSimpArgs false

set_option maxHeartbeats 400000 in
theorem sExtOK_any (a b : Int) (w : World) :
    Calls Tryz.prog 86 #[.agg #[.int .i64 a, .int .i64 b]] w fun e w' => e = .returned (.bool (eok a b)) ∧ Chg nob w w' := by
  cases ha : fok a
  · go_enter Tryz.func86, Tryz.ntmps86
    go_wp2_with (go_at_call 94; refine (sFieldOK_any _ _).mono ?_; rintro e w' ⟨rfl, rfl⟩)
    go_ret
    exact ⟨ret_bool (by simp [eok, ha]), (Chg.refl _ _).alloc _⟩
  · cases hb : fok b
    all_goals
      go_enter Tryz.func86, Tryz.ntmps86
      go_wp2_with (go_at_call 94; refine (sFieldOK_any _ _).mono ?_; rintro e w' ⟨rfl, rfl⟩)
      go_ret
      exact ⟨ret_bool (by simp [eok, ha, hb]), (Chg.refl _ _).alloc _⟩


end Go.Proofs.YtppiilbcnkphbaaGreat

namespace Go.Proofs.YtppiilbcnkphbaaGreat
open Go.ChangeShapes Go.WideShapes Go.ChangeAt Go.RowKit
set_option linter.unusedVariables false
set_option linter.unusedSimpArgs false

/-- As PM, a block between. -/
structure PN (w W : World) (t : TypeId) (x1 x2 y1 y2 : Int) : Prop where
  rx : W.rowIs w.heap.size t 2 (pi2 x1 x2)
  rr : W.rowIs (w.heap.size + 1) t 2 (pi2 0 0)
  ry : W.rowIs (w.heap.size + 1 + 1 + 1) t 2 (pi2 y1 y2)
  chg : Chg nob w W
  size : w.heap.size + 4 ≤ W.heap.size
theorem PN.keep {w W W' : World} {t : TypeId} {x1 x2 y1 y2 : Int} (h : PN w W t x1 x2 y1 y2) (k : Chg nob W W') : PN w W' t x1 x2 y1 y2 :=
  ⟨rowIs_keep h.rx k, rowIs_keep h.rr k, rowIs_keep h.ry k, h.chg.trans k, Nat.le_trans h.size k.size⟩
theorem PN.new (w : World) (t : TypeId) (x1 x2 y1 y2 : Int) : PN w ((((w.alloc (.cells #[.int .i64 x1, .int .i64 x2] t)).alloc (.cells #[.int .i64 0, .int .i64 0] t)).alloc (.cells #[.int .i64 y1, .int .i64 y2] t)).alloc (.cells #[.int .i64 y1, .int .i64 y2] t)) t x1 x2 y1 y2 :=
  ⟨(((row2_new w _ _ t).alloc _).alloc _).alloc _, by have h := ((row2_new (w.alloc (.cells #[.int .i64 x1, .int .i64 x2] t)) (.int .i64 0) (.int .i64 0) t).alloc (.cells #[.int .i64 y1, .int .i64 y2] t)).alloc (.cells #[.int .i64 y1, .int .i64 y2] t); simpa [pi2] using h,
   by have h := row2_new (((w.alloc (.cells #[.int .i64 x1, .int .i64 x2] t)).alloc (.cells #[.int .i64 0, .int .i64 0] t)).alloc (.cells #[.int .i64 y1, .int .i64 y2] t)) (.int .i64 y1) (.int .i64 y2) t; simpa [pi2] using h, ((((Chg.refl _ _).alloc _).alloc _).alloc _).alloc _, by simp⟩

set_option maxHeartbeats 400000 in
theorem eqExt_any (a b : Int) (w : World) :
    Calls Tryz.prog 25 #[.agg #[.int .i64 a, .int .i64 b], .agg #[.int .i64 a, .int .i64 b]] w fun e w' => e = .returned (.bool true) ∧ Chg nob w w' := by
  go_enter Tryz.func25, Tryz.ntmps25
  go_wp2
  go_ret
  exact ⟨rfl, (by repeat (first | with_reducible exact Chg.refl _ _ | with_reducible refine Chg.alloc ?_ _ | with_reducible refine Chg.drewN ?_ _ | with_reducible refine Chg.drew ?_ | with_reducible refine Chg.setCell ?_ (fun l => absurd l (by dsimp only; omega)) _ | with_reducible refine Chg.trans ?_ (by assumption)))⟩


end Go.Proofs.YtppiilbcnkphbaaGreat

namespace Go.Proofs.YtppiilbcnkphbaaGreat
open Go.RowKit

/-- What was there is there. -/
theorem Chg.look {w w' : World} (h : Chg nob w w') {b o : Nat} {v : Value} (c : w.cell? ⟨b, o, none⟩ = some v) : w'.cell? ⟨b, o, none⟩ = some v :=
  (h.cell (p := ⟨b, o, none⟩) (World.block_lt_of_cell? w _ c) (fun x => x)).trans c

end Go.Proofs.YtppiilbcnkphbaaGreat

namespace Go.Proofs.YtppiilbcnkphbaaGreat
open Go.ChangeShapes Go.WideShapes Go.ChangeAt Go.RowKit
set_option linter.unusedVariables false
set_option maxRecDepth 100000
set_option linter.unusedSimpArgs false

/-- The two parameters are where they were; nothing else has turned. -/
structure Two (w W : World) (a b c d : Int) : Prop where
  c0 : W.cell? ⟨w.heap.size, 0, none⟩ = some (.int .i64 a)
  c1 : W.cell? ⟨w.heap.size, 1, none⟩ = some (.int .i64 b)
  c2 : W.cell? ⟨w.heap.size + 1, 0, none⟩ = some (.int .i64 c)
  c3 : W.cell? ⟨w.heap.size + 1, 1, none⟩ = some (.int .i64 d)
  chg : Chg nob w W
  size : w.heap.size + 2 ≤ W.heap.size
theorem Two.keep {w W W' : World} {a b c d : Int} (h : Two w W a b c d) (k : Chg nob W W') : Two w W' a b c d :=
  ⟨k.look h.c0, k.look h.c1, k.look h.c2, k.look h.c3, h.chg.trans k, Nat.le_trans h.size k.size⟩
theorem Two.new (w : World) (a b c d : Int) (t : TypeId) : Two w ((w.alloc (.cells #[.int .i64 a, .int .i64 b] t)).alloc (.cells #[.int .i64 c, .int .i64 d] t)) a b c d :=
  ⟨by go_simp, by go_simp, by go_simp, by go_simp, ((Chg.refl _ _).alloc _).alloc _, by simp⟩
theorem Two.S {w W : World} {a b c d : Int} (h : Two w W a b c d) : W.cell? ⟨w.heap.size, 0, none⟩ = some (.int .i64 a) ∧ W.cell? ⟨w.heap.size, 1, none⟩ = some (.int .i64 b) ∧ W.cell? ⟨w.heap.size + 1, 0, none⟩ = some (.int .i64 c) ∧ W.cell? ⟨w.heap.size + 1, 1, none⟩ = some (.int .i64 d) := ⟨h.c0, h.c1, h.c2, h.c3⟩
/-- A block holds an element. -/
structure Elem (W : World) (g : Nat) (u v : Int) : Prop where
  c0 : W.cell? ⟨g, 0, none⟩ = some (.int .i64 u)
  c1 : W.cell? ⟨g, 1, none⟩ = some (.int .i64 v)
theorem Elem.keep {W W' : World} {g : Nat} {u v : Int} (h : Elem W g u v) (k : Chg nob W W') : Elem W' g u v := ⟨k.look h.c0, k.look h.c1⟩
theorem Elem.new (W : World) (u v : Int) (t : TypeId) : Elem (W.alloc (.cells #[.int .i64 u, .int .i64 v] t)) W.heap.size u v := ⟨by go_simp, by go_simp⟩
theorem Elem.set {W : World} {g : Nat} {x y : Value} (h0 : W.cell? ⟨g, 0, none⟩ = some x) (h1 : W.cell? ⟨g, 1, none⟩ = some y) (u v : Int) : Elem ((W.setCell ⟨g, 0, none⟩ (.int .i64 u)).setCell ⟨g, 1, none⟩ (.int .i64 v)) g u v :=
  ⟨by rw [World.cell?_setCell_other _ _ _ _ (by simp)]; exact World.cell?_setCell_same _ _ _ h0, World.cell?_setCell_same _ _ _ (u := y) (by rw [World.cell?_setCell_other _ _ _ _ (by simp), h1])⟩


end Go.Proofs.YtppiilbcnkphbaaGreat
