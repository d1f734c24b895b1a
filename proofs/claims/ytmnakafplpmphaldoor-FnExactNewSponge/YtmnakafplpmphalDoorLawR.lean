/- What the laws' helpers on sources do: contracts. Conditions: rows that can be read, lengths of at most 2 to the 40. -/
import Derived.Test.YtmnakafplpmphalDoorERow
import Derived.Test.YtmnakafplpmphalDoorRow4
import Derived.Deep.QuietTactic
import Derived.Deep.RegionHeld3
import Derived.BigQuiet
namespace Go.Proofs.YtmnakafplpmphalDoor
open Go.ChangeShapes Go.WideShapes Go.ChangeAt Go.RowKit
set_option linter.unusedVariables false
set_option maxRecDepth 100000
set_option linter.unusedSimpArgs false

/-- A source in memory of its own. -/
def CopiedS (w : World) (n : Nat) (f g : Nat → Int) (at' : Int) (st : ByteArray) (ct : Int) (e : Ending) (w' : World) : Prop :=
  ∃ b : Nat, w.heap.size ≤ b ∧ e = .returned (.agg #[.slice (some ⟨b, 0, none⟩) n n, .int .i64 at', .string st, .int .i64 ct]) ∧ w'.rowIs b 86 (n * 2) (pf f g) ∧ Chg nob w w'

set_option maxHeartbeats 1000000 in
theorem eqSource_any (c d : Option Addr) (n m cap cap' : Nat) (f g f' g' : Nat → Int) (at' : Int) (st : ByteArray) (ct : Int) (w : World) (h : Hid (PairV w c n f g)) (h' : Hid (PairV w d m f' g')) (hm : n = m) (he : ∀ i, i < n → f i = f' i ∧ g i = g' i) (hn : n ≤ 1099511627776) :
    Calls Tryd.prog 27 #[.agg #[.slice c n cap, .int .i64 at', .string st, .int .i64 ct], .agg #[.slice d m cap', .int .i64 at', .string st, .int .i64 ct]] w fun e w' => e = .returned (.bool true) ∧ Chg nob w w' := by
  subst hm
  go_enter Tryd.func27, Tryd.ntmps27
  go_wp2_with fail
  refine (eqExtS_any c d n n cap cap' f g f' g' _ (hik (h.out.keep (((Chg.refl nob w).alloc _).alloc _))) (hik (h'.out.keep (((Chg.refl nob w).alloc _).alloc _))) rfl he hn).mono ?_
  rintro e W1 ⟨rfl, k1⟩
  have G1 := hik ((((Chg.refl nob w).alloc (.cells #[.slice c n cap, .int .i64 at', .string st, .int .i64 ct] 45)).alloc (.cells #[.slice d n cap', .int .i64 at', .string st, .int .i64 ct] 45)).trans k1)
  have x1 : W1.cell? ⟨w.heap.size, 1, none⟩ = some (.int .i64 at') := k1.look (by go_simp)
  have x2 : W1.cell? ⟨w.heap.size, 2, none⟩ = some (.string st) := k1.look (by go_simp)
  have x3 : W1.cell? ⟨w.heap.size, 3, none⟩ = some (.int .i64 ct) := k1.look (by go_simp)
  have y1 : W1.cell? ⟨w.heap.size + 1, 1, none⟩ = some (.int .i64 at') := k1.look (by go_simp)
  have y2 : W1.cell? ⟨w.heap.size + 1, 2, none⟩ = some (.string st) := k1.look (by go_simp)
  have y3 : W1.cell? ⟨w.heap.size + 1, 3, none⟩ = some (.int .i64 ct) := k1.look (by go_simp)
  clear k1
  go_wp2
  go_ret
  exact ⟨rfl, G1.out⟩

end Go.Proofs.YtmnakafplpmphalDoor
