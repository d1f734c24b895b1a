/- Several texts in one: A block that was made just now, as a row; a heap's size behind an alloc: plain. · A drawn setting is a right one: contracts. Conditions: those of each theorem. -/
import Derived.Test.YtbjhppamolmpeaaBzaa
import Derived.Deep.Heap
import Derived.Test.YtbjhppamolmpeaaBzbb
import Derived.Test.YtbjhppamolmpeaaBzav
namespace Go.Proofs.Ytbjhppamolmpeaa
open Go.RowKit
theorem asz (w : World) (o : Obj) : (w.alloc o).heap.size = w.heap.size + 1 := by simp
theorem rowN_new (W : World) (n : Nat) (a : Array Value) (t : TypeId) (h : a.size = n) : (W.alloc (.cells a t)).rowIs W.heap.size t n (fun i => a.getD i undef) :=
  ⟨a, Go.Deep.blk_alloc_new _ _, h, fun i hi => by simp [h, hi]⟩

end Go.Proofs.Ytbjhppamolmpeaa

namespace Go.Proofs.Ytbjhppamolmpeaa
open Go.ChangeShapes Go.WideShapes Go.ChangeAt Go.RowKit
set_option linter.unusedVariables false
set_option maxRecDepth 100000
set_option linter.unusedSimpArgs false

theorem set3_all {W : World} {g : Nat} {ty : TypeId} {h0 : Nat → Value} (h : W.rowIs g ty 3 h0) (a b c : Value) : (((W.setCell ⟨g, 0, none⟩ a).setCell ⟨g, 1, none⟩ b).setCell ⟨g, 2, none⟩ c).rowIs g ty 3 (fun i => (#[a, b, c] : Array Value).getD i undef) :=
  (((h.set 0 a).set 1 b).set 2 c).congr (fun i hi => by
    match i, hi with
    | 0, _ => rfl
    | 1, _ => rfl
    | 2, _ => rfl)
theorem chg3_at {P : Nat → Prop} {w W : World} (h : Chg P w W) (g : Nat) (hg : g < w.heap.size → P g) (a b c : Value) : Chg P w (((W.setCell ⟨g, 0, none⟩ a).setCell ⟨g, 1, none⟩ b).setCell ⟨g, 2, none⟩ c) :=
  ((h.setCell (p := ⟨g, 0, none⟩) hg a).setCell (p := ⟨g, 1, none⟩) hg b).setCell (p := ⟨g, 2, none⟩) hg c


end Go.Proofs.Ytbjhppamolmpeaa
