/- ExtDot and its model at right lists of one length: contracts. Conditions: right elements, at most 4096. -/
import Derived.Test.YtencdbocifpekaaDot
namespace Go.Proofs.Ytencdbocifpekaa
open Go.ChangeShapes Go.WideShapes Go.ChangeAt Go.RowKit

/-- Four cells that can be read. -/
structure Cel4 (W : World) (xb xo yb yo : Nat) (a b c d : Int) : Prop where
  c0 : W.cell? ⟨xb, xo, none⟩ = some (.int .i64 a)
  c1 : W.cell? ⟨xb, xo + 1, none⟩ = some (.int .i64 b)
  c2 : W.cell? ⟨yb, yo, none⟩ = some (.int .i64 c)
  c3 : W.cell? ⟨yb, yo + 1, none⟩ = some (.int .i64 d)
theorem Cel4.keep {W W' : World} {xb xo yb yo : Nat} {a b c d : Int} (h : Cel4 W xb xo yb yo a b c d) (k : Chg nob W W') : Cel4 W' xb xo yb yo a b c d := ⟨k.look h.c0, k.look h.c1, k.look h.c2, k.look h.c3⟩
theorem Cel4.S {W : World} {xb xo yb yo : Nat} {a b c d : Int} (h : Cel4 W xb xo yb yo a b c d) : W.cell? ⟨xb, xo, none⟩ = some (.int .i64 a) ∧ W.cell? ⟨xb, xo + 1, none⟩ = some (.int .i64 b) ∧ W.cell? ⟨yb, yo, none⟩ = some (.int .i64 c) ∧ W.cell? ⟨yb, yo + 1, none⟩ = some (.int .i64 d) := ⟨h.c0, h.c1, h.c2, h.c3⟩
theorem Elem.set2 {W : World} {g b : Nat} {u v : Int} (h : Elem W b u v) (hne : b ≠ g) (x y : Value) : Elem ((W.setCell ⟨g, 0, none⟩ x).setCell ⟨g, 1, none⟩ y) b u v := ⟨look_set2 hne h.c0 _ _, look_set2 hne h.c1 _ _⟩
theorem eok_dE (f g f' g' : Nat → Int) (n : Nat) : eok (dE f g f' g' n).1 (dE f g f' g' n).2 = true := by
  obtain ⟨h0, h1, h2, h3⟩ := dE_red f g f' g' n
  exact eok_mk (fok_mk h0 h1) (fok_mk h2 h3)
theorem dc_ok {f g f' g' : Nat → Int} {n : Nat} (hn : n ≤ 4096) (h : okP f g n = true) (h' : okP f' g' n = true) : dc f g f' g' n n = 0 := by
  unfold dc
  rw [if_neg (by omega), h, h']
  simp

theorem extDot_ok (c d : Option Addr) (n cap cap' : Nat) (f g f' g' : Nat → Int) (w : World) (h : Hid (PairV w c n f g)) (h' : Hid (PairV w d n f' g')) (hn : n ≤ 4096) (ho : okP f g n = true) (ho' : okP f' g' n = true) :
    Calls Try.prog 37 #[.slice c n cap, .slice d n cap'] w fun e w' => e = .returned (.tuple #[.agg #[.int .i64 (dE f g f' g' n).1, .int .i64 (dE f g f' g' n).2], .int .i64 0]) ∧ Chg nob w w' := by
  have q := extDot_any c d n n cap cap' f g f' g' w h h' (by omega) (by omega)
  have z := dc_ok hn ho ho'
  rw [show dv1 f g f' g' n n = (dE f g f' g' n).1 by simp [dv1, z], show dv2 f g f' g' n n = (dE f g f' g' n).2 by simp [dv2, z], z] at q
  exact q

theorem sExtDot_ok (c d : Option Addr) (n cap cap' : Nat) (f g f' g' : Nat → Int) (w : World) (h : Hid (PairV w c n f g)) (h' : Hid (PairV w d n f' g')) (hn : n ≤ 4096) (ho : okP f g n = true) (ho' : okP f' g' n = true) :
    Calls Try.prog 38 #[.slice c n cap, .slice d n cap'] w fun e w' => e = .returned (.tuple #[.agg #[.int .i64 (dE f g f' g' n).1, .int .i64 (dE f g f' g' n).2], .int .i64 0]) ∧ Chg nob w w' := by
  have q := sExtDot_any c d n n cap cap' f g f' g' w h h' (by omega) (by omega)
  have z := dc_ok hn ho ho'
  rw [show dv1 f g f' g' n n = (dE f g f' g' n).1 by simp [dv1, z], show dv2 f g f' g' n n = (dE f g f' g' n).2 by simp [dv2, z], z] at q
  exact q

end Go.Proofs.Ytencdbocifpekaa
