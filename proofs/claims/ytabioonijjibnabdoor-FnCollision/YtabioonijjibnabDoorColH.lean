/- What the law on two texts of one hash keeps from statement to statement: a word. No program is walked here. -/
import Derived.Test.YtabioonijjibnabDoorStrB
import Derived.Test.YtabioonijjibnabDoorPair
namespace Go.Proofs.YtabioonijjibnabDoor
open Go.RowKit

/-- The leaves and a path can be read, and nothing that was there has turned. -/
structure Cx (w W : World) (b n : Nat) (L : Nat → ByteArray) (c : Option Addr) (d : Nat) (P : Nat → ByteArray) : Prop where
  chg : Chg nob w W
  row : RowV W (some ⟨b, 0, none⟩) n (sb L)
  path : RowV W c d (sb P)
theorem Cx.keep {w W W' : World} {b n : Nat} {L : Nat → ByteArray} {c : Option Addr} {d : Nat} {P : Nat → ByteArray} (h : Cx w W b n L c d P) (k : Chg nob W W') : Cx w W' b n L c d P :=
  ⟨h.chg.trans k, h.row.keep k, h.path.keep k⟩
theorem Cx.at_ {w W : World} {b n : Nat} {L : Nat → ByteArray} {c : Option Addr} {d : Nat} {P : Nat → ByteArray} (h : Cx w W b n L c d P) {m : Nat} (hm : m < n) : W.cell? ⟨b, m, none⟩ = some (.string (L m)) := by
  obtain ⟨xb, xo, e, _, hc⟩ := h.row m hm
  obtain ⟨rfl, rfl⟩ : b = xb ∧ 0 = xo := by simpa using e
  rw [Nat.zero_add] at hc; exact hc
end Go.Proofs.YtabioonijjibnabDoor
