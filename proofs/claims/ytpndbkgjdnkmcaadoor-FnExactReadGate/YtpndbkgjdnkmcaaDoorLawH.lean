/- Helpers of the exact laws over elements: what is kept in memory between their statements. No condition but those that are stated. -/
import Derived.Test.YtpndbkgjdnkmcaaDoorExtT
import Derived.Test.YtpndbkgjdnkmcaaDoorBzam
import Derived.Deep.CutRange
namespace Go.Proofs.YtpndbkgjdnkmcaaDoor
open Go.ChangeShapes Go.WideShapes Go.ChangeAt Go.RowKit
set_option linter.unusedVariables false
set_option maxRecDepth 100000
set_option linter.unusedSimpArgs false

/-- The two parameters are where they were; nothing else has turned. -/
structure Two (w W : World) (a b c d : Int) : Prop where
  c0 : W.cell? ⟨w.heap.size, 0, none⟩ = some (.int .i64 a)
  c1 : W.cell? ⟨w.heap.size, 1, none⟩ = some (.int .i64 b)
  c2 : W.cell? ⟨w.heap.size + 1, 0, none⟩ = some (.int .i64 c)
  c3 : W.cell? ⟨w.heap.size + 1, 1, none⟩ = some (.int .i64 d)
  chg : Chg nob w W
  size : w.heap.size + 2 ≤ W.heap.size
theorem Two.keep {w W W' : World} {a b c d : Int} (h : Two w W a b c d) (k : Chg nob W W') : Two w W' a b c d :=
  ⟨k.look h.c0, k.look h.c1, k.look h.c2, k.look h.c3, h.chg.trans k, Nat.le_trans h.size k.size⟩
theorem Two.new (w : World) (a b c d : Int) (t : TypeId) : Two w ((w.alloc (.cells #[.int .i64 a, .int .i64 b] t)).alloc (.cells #[.int .i64 c, .int .i64 d] t)) a b c d :=
  ⟨by go_simp, by go_simp, by go_simp, by go_simp, ((Chg.refl _ _).alloc _).alloc _, by simp⟩
theorem Two.S {w W : World} {a b c d : Int} (h : Two w W a b c d) : W.cell? ⟨w.heap.size, 0, none⟩ = some (.int .i64 a) ∧ W.cell? ⟨w.heap.size, 1, none⟩ = some (.int .i64 b) ∧ W.cell? ⟨w.heap.size + 1, 0, none⟩ = some (.int .i64 c) ∧ W.cell? ⟨w.heap.size + 1, 1, none⟩ = some (.int .i64 d) := ⟨h.c0, h.c1, h.c2, h.c3⟩
/-- A block holds an element. -/
structure Elem (W : World) (g : Nat) (u v : Int) : Prop where
  c0 : W.cell? ⟨g, 0, none⟩ = some (.int .i64 u)
  c1 : W.cell? ⟨g, 1, none⟩ = some (.int .i64 v)
theorem Elem.keep {W W' : World} {g : Nat} {u v : Int} (h : Elem W g u v) (k : Chg nob W W') : Elem W' g u v := ⟨k.look h.c0, k.look h.c1⟩
theorem Elem.new (W : World) (u v : Int) (t : TypeId) : Elem (W.alloc (.cells #[.int .i64 u, .int .i64 v] t)) W.heap.size u v := ⟨by go_simp, by go_simp⟩
theorem Elem.set {W : World} {g : Nat} {x y : Value} (h0 : W.cell? ⟨g, 0, none⟩ = some x) (h1 : W.cell? ⟨g, 1, none⟩ = some y) (u v : Int) : Elem ((W.setCell ⟨g, 0, none⟩ (.int .i64 u)).setCell ⟨g, 1, none⟩ (.int .i64 v)) g u v :=
  ⟨by rw [World.cell?_setCell_other _ _ _ _ (by simp)]; exact World.cell?_setCell_same _ _ _ h0, World.cell?_setCell_same _ _ _ (u := y) (by rw [World.cell?_setCell_other _ _ _ _ (by simp), h1])⟩


end Go.Proofs.YtpndbkgjdnkmcaaDoor
