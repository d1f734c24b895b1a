/- A block that was made just now, as a row; a heap's size behind an alloc: plain. -/
import Derived.Test.YtpndbkgjdnkmcaaDoorBzac
import Derived.Deep.Heap
namespace Go.Proofs.YtpndbkgjdnkmcaaDoor
open Go.RowKit
theorem rowN_new (W : World) (n : Nat) (a : Array Value) (t : TypeId) (h : a.size = n) : (W.alloc (.cells a t)).rowIs W.heap.size t n (fun i => a.getD i undef) :=
  ⟨a, Go.Deep.blk_alloc_new _ _, h, fun i hi => by simp [h, hi]⟩

end Go.Proofs.YtpndbkgjdnkmcaaDoor
