/- A block that was made just now, as a row; a heap's size behind an alloc: plain. -/
import Derived.Test.YtbjhppamolmpeaaBzaa
import Derived.Deep.Heap
namespace Go.Proofs.Ytbjhppamolmpeaa
open Go.RowKit
theorem asz (w : World) (o : Obj) : (w.alloc o).heap.size = w.heap.size + 1 := by simp
theorem rowN_new (W : World) (n : Nat) (a : Array Value) (t : TypeId) (h : a.size = n) : (W.alloc (.cells a t)).rowIs W.heap.size t n (fun i => a.getD i undef) :=
  ⟨a, Go.Deep.blk_alloc_new _ _, h, fun i hi => by simp [h, hi]⟩

end Go.Proofs.Ytbjhppamolmpeaa
