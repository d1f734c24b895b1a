/- Several texts in one: Words on memory, two cells an element: a block of two cells; a row of pairs. No program is named here. · What the greater field's functions answer, and those of its model: contracts. Conditions: those of each theorem. -/
import Derived.Test.YtbjhppamolmpeaaBzaa
import Derived.OpenShut
import Derived.Test.YtbjhppamolmpeaaBzab
import Derived.Test.YtbjhppamolmpeaaBzac
import Derived.RegionTactic
import Derived.ChangeAlike
import Derived.BigRegion
import Derived.Deep.QuietTactic
import Derived.BigQuiet
import Derived.Deep.RegionHeld3
namespace Go.Proofs.Ytbjhppamolmpeaa
open Go.RowKit

theorem Chg.drew {P : Nat → Prop} {a b : World} (h : Chg P a b) : Chg P a b.drew := ⟨h.os, h.tape, h.output, h.size, h.block⟩
theorem Chg.toBelow {a b : World} (h : Chg nob a b) : Below a.heap.size a b := ⟨h.os, h.tape, h.output, h.size, fun k hk => h.block k hk (fun x => x)⟩
/-- n pairs of ints that can be read behind c. -/
def PairV (w : World) (c : Option Addr) (n : Nat) (f g : Nat → Int) : Prop :=
  ∀ i, i < n → ∃ xb xo : Nat, c = some ⟨xb, xo, none⟩ ∧ xb < w.heap.size ∧ w.cell? ⟨xb, xo + i * 2, none⟩ = some (.int .i64 (f i)) ∧ w.cell? ⟨xb, xo + i * 2 + 1, none⟩ = some (.int .i64 (g i))
theorem PairV.chg {P : Nat → Prop} {w w' : World} {c : Option Addr} {n : Nat} {f g : Nat → Int} (h : PairV w c n f g) (k : Chg P w w') (hp : ∀ xb xo, c = some ⟨xb, xo, none⟩ → xb < w.heap.size → ¬ P xb) : PairV w' c n f g := by
  intro i hi
  obtain ⟨xb, xo, e, l, h1, h2⟩ := h i hi
  exact ⟨xb, xo, e, Nat.lt_of_lt_of_le l k.size, by rw [k.cell l (hp xb xo e l), h1], by rw [k.cell l (hp xb xo e l), h2]⟩
theorem PairV.keep {w w' : World} {c : Option Addr} {n : Nat} {f g : Nat → Int} (h : PairV w c n f g) (k : Chg nob w w') : PairV w' c n f g := h.chg k (fun _ _ _ _ x => x)
/-- Two values. -/
def pv2 (u v : Value) (i : Nat) : Value := if i = 0 then u else v
/-- Two ints. -/
def pi2 (x y : Int) : Nat → Value := pv2 (.int .i64 x) (.int .i64 y)
theorem row2_new (W : World) (u v : Value) (t : TypeId) : (W.alloc (.cells #[u, v] t)).rowIs W.heap.size t 2 (pv2 u v) :=
  W.rowIs_alloc #[u, v] t (pv2 u v) (fun i hi => by
    match i, hi with
    | 0, _ => rfl
    | 1, _ => rfl)

end Go.Proofs.Ytbjhppamolmpeaa

namespace Go.Proofs.Ytbjhppamolmpeaa
open Go.ChangeShapes Go.WideShapes Go.ChangeAt Go.RowKit
set_option linter.unusedVariables false

/-- Both parts are numbers of the field. -/
def eok (a b : Int) : Bool := fok a && fok b

/-- What a power keeps in memory: the element, the result's place, the product. -/
structure PM (w W : World) (t : TypeId) (x1 x2 y1 y2 : Int) : Prop where
  rx : W.rowIs w.heap.size t 2 (pi2 x1 x2)
  rr : W.rowIs (w.heap.size + 1) t 2 (pi2 0 0)
  ry : W.rowIs (w.heap.size + 1 + 1) t 2 (pi2 y1 y2)
  chg : Chg nob w W
  size : w.heap.size + 3 ≤ W.heap.size
theorem PM.keep {w W W' : World} {t : TypeId} {x1 x2 y1 y2 : Int} (h : PM w W t x1 x2 y1 y2) (k : Chg nob W W') : PM w W' t x1 x2 y1 y2 :=
  ⟨rowIs_keep h.rx k, rowIs_keep h.rr k, rowIs_keep h.ry k, h.chg.trans k, Nat.le_trans h.size k.size⟩
theorem PM.new (w : World) (t : TypeId) (x1 x2 y1 y2 : Int) : PM w (((w.alloc (.cells #[.int .i64 x1, .int .i64 x2] t)).alloc (.cells #[.int .i64 0, .int .i64 0] t)).alloc (.cells #[.int .i64 y1, .int .i64 y2] t)) t x1 x2 y1 y2 :=
  ⟨((row2_new w _ _ t).alloc _).alloc _, by have h := (row2_new (w.alloc (.cells #[.int .i64 x1, .int .i64 x2] t)) (.int .i64 0) (.int .i64 0) t).alloc (.cells #[.int .i64 y1, .int .i64 y2] t); simpa [pi2] using h,
   by have h := row2_new ((w.alloc (.cells #[.int .i64 x1, .int .i64 x2] t)).alloc (.cells #[.int .i64 0, .int .i64 0] t)) (.int .i64 y1) (.int .i64 y2) t; simpa [pi2] using h, (((Chg.refl _ _).alloc _).alloc _).alloc _, by simp⟩


end Go.Proofs.Ytbjhppamolmpeaa
