/- Blocks of four cells: laws. No program is named here. -/
import Derived.Test.YtfbjlohnbpienaaPair
namespace Go.Proofs.Ytfbjlohnbpienaa
open Go.RowKit
set_option linter.unusedVariables false

/-- Four values. -/
def pv4 (u v x y : Value) (i : Nat) : Value := if i = 0 then u else if i = 1 then v else if i = 2 then x else y
theorem row4_new (W : World) (u v x y : Value) (t : TypeId) : (W.alloc (.cells #[u, v, x, y] t)).rowIs W.heap.size t 4 (pv4 u v x y) :=
  World.rowIs_alloc W #[u, v, x, y] t (pv4 u v x y) (fun i hi => by
    match i, hi with
    | 0, _ => rfl
    | 1, _ => rfl
    | 2, _ => rfl
    | 3, _ => rfl)
section
variable {W : World} {g : Nat} {ty : TypeId} {f : Nat → Value}
theorem row4_s0 (h : W.rowIs g ty 4 f) (u : Value) : (W.setCell ⟨g, 0, none⟩ u).cell? ⟨g, 0, none⟩ = some u := by
  have := (h.set 0 u).cell (show 0 < 4 by omega); simpa using this
theorem row4_s1 (h : W.rowIs g ty 4 f) (u v : Value) : ((W.setCell ⟨g, 0, none⟩ u).setCell ⟨g, 1, none⟩ v).cell? ⟨g, 1, none⟩ = some v := by
  have := ((h.set 0 u).set 1 v).cell (show 1 < 4 by omega); simpa using this
theorem row4_s2 (h : W.rowIs g ty 4 f) (u v x : Value) : (((W.setCell ⟨g, 0, none⟩ u).setCell ⟨g, 1, none⟩ v).setCell ⟨g, 2, none⟩ x).cell? ⟨g, 2, none⟩ = some x := by
  have := (((h.set 0 u).set 1 v).set 2 x).cell (show 2 < 4 by omega); simpa using this
theorem row4_s3 (h : W.rowIs g ty 4 f) (u v x y : Value) : ((((W.setCell ⟨g, 0, none⟩ u).setCell ⟨g, 1, none⟩ v).setCell ⟨g, 2, none⟩ x).setCell ⟨g, 3, none⟩ y).cell? ⟨g, 3, none⟩ = some y := by
  have := ((((h.set 0 u).set 1 v).set 2 x).set 3 y).cell (show 3 < 4 by omega); simpa using this
end
theorem chg4_set {P : Nat → Prop} {w W : World} (h : Chg P w W) (g : Nat) (hg : g < w.heap.size → P g) (u v x y : Value) : Chg P w ((((W.setCell ⟨g, 0, none⟩ u).setCell ⟨g, 1, none⟩ v).setCell ⟨g, 2, none⟩ x).setCell ⟨g, 3, none⟩ y) :=
  (((h.setCell (p := ⟨g, 0, none⟩) hg u).setCell (p := ⟨g, 1, none⟩) hg v).setCell (p := ⟨g, 2, none⟩) hg x).setCell (p := ⟨g, 3, none⟩) hg y

theorem row4_set {W : World} {g : Nat} {ty : TypeId} {f : Nat → Value} (h : W.rowIs g ty 4 f) (u v x y : Value) : ((((W.setCell ⟨g, 0, none⟩ u).setCell ⟨g, 1, none⟩ v).setCell ⟨g, 2, none⟩ x).setCell ⟨g, 3, none⟩ y).rowIs g ty 4 (pv4 u v x y) :=
  ((((h.set 0 u).set 1 v).set 2 x).set 3 y).congr (fun i hi => by
    match i, hi with
    | 0, _ => rfl
    | 1, _ => rfl
    | 2, _ => rfl
    | 3, _ => rfl)
theorem row4_other {W : World} {g g' : Nat} {t : TypeId} {n : Nat} {f : Nat → Value} (h : W.rowIs g' t n f) (hne : g' ≠ g) (u v x y : Value) : ((((W.setCell ⟨g, 0, none⟩ u).setCell ⟨g, 1, none⟩ v).setCell ⟨g, 2, none⟩ x).setCell ⟨g, 3, none⟩ y).rowIs g' t n f :=
  (((h.setOther (a := ⟨g, 0, none⟩) hne u).setOther (a := ⟨g, 1, none⟩) hne v).setOther (a := ⟨g, 2, none⟩) hne x).setOther (a := ⟨g, 3, none⟩) hne y
theorem rowIs_kind {W : World} {b : Nat} {t u : TypeId} {n m : Nat} {f g : Nat → Value} (h : W.rowIs b t n f) (k : W.rowIs b u m g) : t = u := by
  obtain ⟨c, h1, _⟩ := h
  obtain ⟨d, k1, _⟩ := k
  rw [h1] at k1
  cases k1
  rfl
end Go.Proofs.Ytfbjlohnbpienaa
