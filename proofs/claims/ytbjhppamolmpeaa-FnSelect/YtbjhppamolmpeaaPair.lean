/- Words on memory, two cells an element: a block of two cells; a row of pairs. No program is named here. -/
import Derived.Test.YtbjhppamolmpeaaMem
import Derived.OpenShut
namespace Go.Proofs.Ytbjhppamolmpeaa
open Go.RowKit

/-- Old cells read as before. -/
theorem kcell {W w1 : World} (h : Chg nob W w1) (N : Nat) (hN : N ≤ W.heap.size) : (∀ b o, b < N → w1.cell? ⟨b, o, none⟩ = W.cell? ⟨b, o, none⟩) ∧ (∀ b o, b < N → w1.frozen? ⟨b, o, none⟩ = W.frozen? ⟨b, o, none⟩) ∧ N ≤ w1.heap.size :=
  ⟨fun b o hb => h.cell (p := ⟨b, o, none⟩) (Nat.lt_of_lt_of_le hb hN) (fun x => x), fun b o hb => World.frozen?_of_block (a := ⟨b, o, none⟩) (h.block b (Nat.lt_of_lt_of_le hb hN) (fun x => x)), Nat.le_trans hN h.size⟩
theorem Chg.drew {P : Nat → Prop} {a b : World} (h : Chg P a b) : Chg P a b.drew := ⟨h.os, h.tape, h.output, h.size, h.block⟩
theorem Chg.toBelow {a b : World} (h : Chg nob a b) : Below a.heap.size a b := ⟨h.os, h.tape, h.output, h.size, fun k hk => h.block k hk (fun x => x)⟩
/-- What is told of a slice of elements that came in: it is nil, or it leads to pairs of ints. -/
def IsPairs (w : World) (c : Option Addr) (len cap : Nat) (f g : Nat → Int) : Prop :=
  (c = none ∧ len = 0 ∧ cap = 0) ∨
  ∃ x, c = some x ∧ len ≤ cap ∧ cap ≤ maxLen ∧ ∀ i, i < len → w.cell? (x.add (i * 2)) = some (.int .i64 (f i)) ∧ w.cell? (x.add (i * 2 + 1)) = some (.int .i64 (g i))
/-- The number of an int. -/
def cint : Option Value → Int
  | some (.int _ a) => a
  | _ => 0
/-- n pairs of ints that can be read behind c. -/
def PairV (w : World) (c : Option Addr) (n : Nat) (f g : Nat → Int) : Prop :=
  ∀ i, i < n → ∃ xb xo : Nat, c = some ⟨xb, xo, none⟩ ∧ xb < w.heap.size ∧ w.cell? ⟨xb, xo + i * 2, none⟩ = some (.int .i64 (f i)) ∧ w.cell? ⟨xb, xo + i * 2 + 1, none⟩ = some (.int .i64 (g i))
theorem pairs_of {w : World} {c : Option Addr} {len cap : Nat} {f g : Nat → Int} (h : IsPairs w c len cap f g) : PairV w c len f g ∧ (len : Int) ≤ 9223372036854775807 := by
  rcases h with ⟨rfl, rfl, rfl⟩ | ⟨x, rfl, hl, hm, hc⟩
  · exact ⟨fun i hi => by omega, by omega⟩
  · unfold maxLen at hm
    refine ⟨fun i hi => ?_, by omega⟩
    obtain ⟨h1, h2⟩ := hc i hi
    obtain ⟨b, o, spot⟩ := x
    have hs : spot = none := by simpa [Addr.add] using World.cell?_spot (hc 0 (by omega)).1
    subst hs
    rw [Go.WideShapes.add_plain] at h1 h2
    exact ⟨b, o, rfl, block_lt_of_cell h1, h1, by rw [Nat.add_assoc]; exact h2⟩
theorem PairV.chg {P : Nat → Prop} {w w' : World} {c : Option Addr} {n : Nat} {f g : Nat → Int} (h : PairV w c n f g) (k : Chg P w w') (hp : ∀ xb xo, c = some ⟨xb, xo, none⟩ → xb < w.heap.size → ¬ P xb) : PairV w' c n f g := by
  intro i hi
  obtain ⟨xb, xo, e, l, h1, h2⟩ := h i hi
  exact ⟨xb, xo, e, Nat.lt_of_lt_of_le l k.size, by rw [k.cell l (hp xb xo e l), h1], by rw [k.cell l (hp xb xo e l), h2]⟩
theorem PairV.keep {w w' : World} {c : Option Addr} {n : Nat} {f g : Nat → Int} (h : PairV w c n f g) (k : Chg nob w w') : PairV w' c n f g := h.chg k (fun _ _ _ _ x => x)
/-- Two values. -/
def pv2 (u v : Value) (i : Nat) : Value := if i = 0 then u else v
/-- Two ints. -/
def pi2 (x y : Int) : Nat → Value := pv2 (.int .i64 x) (.int .i64 y)
theorem row2_set {W : World} {g : Nat} {t : TypeId} {f : Nat → Value} (h : W.rowIs g t 2 f) (u v : Value) : ((W.setCell ⟨g, 0, none⟩ u).setCell ⟨g, 1, none⟩ v).rowIs g t 2 (pv2 u v) :=
  ((h.set 0 u).set 1 v).congr (fun i hi => by
    match i, hi with
    | 0, _ => rfl
    | 1, _ => rfl)
theorem row2_other {W : World} {g g' : Nat} {t : TypeId} {n : Nat} {f : Nat → Value} (h : W.rowIs g' t n f) (hne : g' ≠ g) (u v : Value) : ((W.setCell ⟨g, 0, none⟩ u).setCell ⟨g, 1, none⟩ v).rowIs g' t n f :=
  (h.setOther (a := ⟨g, 0, none⟩) hne u).setOther (a := ⟨g, 1, none⟩) hne v
theorem row2_new (W : World) (u v : Value) (t : TypeId) : (W.alloc (.cells #[u, v] t)).rowIs W.heap.size t 2 (pv2 u v) :=
  W.rowIs_alloc #[u, v] t (pv2 u v) (fun i hi => by
    match i, hi with
    | 0, _ => rfl
    | 1, _ => rfl)
theorem row2_c0 {W : World} {g : Nat} {t : TypeId} {u v : Value} (h : W.rowIs g t 2 (pv2 u v)) : W.cell? ⟨g, 0, none⟩ = some u := h.cell (by omega)
theorem row2_c1 {W : World} {g : Nat} {t : TypeId} {u v : Value} (h : W.rowIs g t 2 (pv2 u v)) : W.cell? ⟨g, 1, none⟩ = some v := h.cell (by omega)
theorem chg2_set {P : Nat → Prop} {w W : World} (h : Chg P w W) (g : Nat) (hg : g < w.heap.size → P g) (u v : Value) : Chg P w ((W.setCell ⟨g, 0, none⟩ u).setCell ⟨g, 1, none⟩ v) :=
  (h.setCell (p := ⟨g, 0, none⟩) hg u).setCell (p := ⟨g, 1, none⟩) hg v
end Go.Proofs.Ytbjhppamolmpeaa
