/- Several texts in one: Words on memory, two cells an element: a block of two cells; a row of pairs. No program is named here. · Words on memory: what is there stays there. No program is named here. -/
import Derived.Test.YtpndbkgjdnkmcaaDoorBzac
import Derived.OpenShut
import Derived.WalkKit
namespace Go.Proofs.YtpndbkgjdnkmcaaDoor
open Go.RowKit

theorem Chg.drew {P : Nat → Prop} {a b : World} (h : Chg P a b) : Chg P a b.drew := ⟨h.os, h.tape, h.output, h.size, h.block⟩
/-- n pairs of ints that can be read behind c. -/
def PairV (w : World) (c : Option Addr) (n : Nat) (f g : Nat → Int) : Prop :=
  ∀ i, i < n → ∃ xb xo : Nat, c = some ⟨xb, xo, none⟩ ∧ xb < w.heap.size ∧ w.cell? ⟨xb, xo + i * 2, none⟩ = some (.int .i64 (f i)) ∧ w.cell? ⟨xb, xo + i * 2 + 1, none⟩ = some (.int .i64 (g i))
theorem PairV.chg {P : Nat → Prop} {w w' : World} {c : Option Addr} {n : Nat} {f g : Nat → Int} (h : PairV w c n f g) (k : Chg P w w') (hp : ∀ xb xo, c = some ⟨xb, xo, none⟩ → xb < w.heap.size → ¬ P xb) : PairV w' c n f g := by
  intro i hi
  obtain ⟨xb, xo, e, l, h1, h2⟩ := h i hi
  exact ⟨xb, xo, e, Nat.lt_of_lt_of_le l k.size, by rw [k.cell l (hp xb xo e l), h1], by rw [k.cell l (hp xb xo e l), h2]⟩
theorem PairV.keep {w w' : World} {c : Option Addr} {n : Nat} {f g : Nat → Int} (h : PairV w c n f g) (k : Chg nob w w') : PairV w' c n f g := h.chg k (fun _ _ _ _ x => x)
/-- Two values. -/
def pv2 (u v : Value) (i : Nat) : Value := if i = 0 then u else v
/-- Two ints. -/
def pi2 (x y : Int) : Nat → Value := pv2 (.int .i64 x) (.int .i64 y)
theorem row2_new (W : World) (u v : Value) (t : TypeId) : (W.alloc (.cells #[u, v] t)).rowIs W.heap.size t 2 (pv2 u v) :=
  W.rowIs_alloc #[u, v] t (pv2 u v) (fun i hi => by
    match i, hi with
    | 0, _ => rfl
    | 1, _ => rfl)

end Go.Proofs.YtpndbkgjdnkmcaaDoor

namespace Go.Proofs.YtpndbkgjdnkmcaaDoor
open Go.RowKit

/-- What was there is there. -/
theorem Chg.look {w w' : World} (h : Chg nob w w') {b o : Nat} {v : Value} (c : w.cell? ⟨b, o, none⟩ = some v) : w'.cell? ⟨b, o, none⟩ = some v :=
  (h.cell (p := ⟨b, o, none⟩) (World.block_lt_of_cell? w _ c) (fun x => x)).trans c

end Go.Proofs.YtpndbkgjdnkmcaaDoor
