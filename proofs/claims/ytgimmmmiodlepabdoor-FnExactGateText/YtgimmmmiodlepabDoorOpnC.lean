/- Circuits and lists of ints that come in as an argument, and the table of shapes: what their cells hold. No condition but those that each theorem states. -/
import Derived.Test.YtgimmmmiodlepabDoorCirX
import Derived.Test.YtgimmmmiodlepabDoorIntRow
import Derived.Deep.Slices
import Derived.Deep.SlicePairs
import Derived.Deep.Strs
import Derived.Lib.SmallJoins
import Derived.OpenShut
namespace Go.Proofs.YtgimmmmiodlepabDoor
open Go.ChangeShapes Go.WideShapes Go.ChangeAt Go.RowKit Go.Deep Go.Joins
set_option linter.unusedVariables false
set_option maxRecDepth 100000
set_option linter.unusedSimpArgs false

theorem cellsGt : Tryd.prog.cellsOf 48 = 4 := by kernel_rfl
theorem cellsIc : Tryd.prog.cellsOf 3 = 1 := by kernel_rfl
theorem cellsSp : Tryd.prog.cellsOf 95 = 3 := by kernel_rfl
theorem cellsSc : Tryd.prog.cellsOf 9 = 1 := by kernel_rfl
theorem cellsBc : Tryd.prog.cellsOf 4 = 1 := by kernel_rfl
section
variable {H : Type} {enc : TypeId × Value → H} {w : World} {base : Nat} {spare : Nat → Bool} {held : Bool}
theorem in_gates {fuel : Nat} {v : Value} {x : DataW H × List MemPlace} (hf : DataW.trod enc Tryd.prog w base spare held fuel 22 [v] = some x) :
    ∃ (c : Option Addr) (n cap : Nat) (X : Nat → Gt), v = .slice c n cap ∧ GatV w c n X ∧ n ≤ 9223372036854775807 := by
  rcases open_slice Tryd.underlying22 hf with ⟨hcs, _⟩ | ⟨a, len, cap, m, n, D, Pl, hcs, hb, hl, hm, hmm, _, hx⟩
  · simp at hcs
    subst hcs
    exact ⟨none, 0, 0, fun _ => (0, 0, 0, 0), rfl, fun i hi => absurd hi (by omega), by omega⟩
  · simp at hcs
    subst hcs
    have hlm : len ≤ m := by rw [hmm]; split <;> omega
    unfold maxLen at hm
    obtain ⟨q, hq⟩ := choose_lt (α := Gt) (n := len) (p := fun i q => w.cell? (a.add (i * 4)) = some (.int .i64 q.1) ∧ w.cell? (a.add (i * 4 + 1)) = some (.int .i64 q.2.1) ∧ w.cell? (a.add (i * 4 + 2)) = some (.int .i64 q.2.2.1) ∧ w.cell? (a.add (i * 4 + 3)) = some (.int .i64 q.2.2.2)) (fun i hi => by
      obtain ⟨cs', h1, h2⟩ := hx i (by omega)
      rw [cellsGt] at h1
      obtain ⟨_, hlen, hcell⟩ := World.cells?_some h1
      obtain ⟨xs, k, hk, hxy, _, hxl, hf⟩ := DataW.trod_struct Tryd.underlying48 h2
      match xs, hxl, cs', hlen with
      | [y0, y1, y2, y3], _, [v0, v1, v2, v3], _ =>
        have g0 := hf 0 _ rfl
        have g1 := hf 1 _ rfl
        have g2 := hf 2 _ rfl
        have g3 := hf 3 _ rfl
        simp [cellsIc] at g0 g1 g2 g3
        obtain ⟨i0, e0, _⟩ := DataW.trod_int Tryd.underlying3 g0
        obtain ⟨i1, e1, _⟩ := DataW.trod_int Tryd.underlying3 g1
        obtain ⟨i2, e2, _⟩ := DataW.trod_int Tryd.underlying3 g2
        obtain ⟨i3, e3, _⟩ := DataW.trod_int Tryd.underlying3 g3
        simp at e0 e1 e2 e3
        subst e0 e1 e2 e3
        have k0 := hcell 0 (by omega)
        have k1 := hcell 1 (by omega)
        have k2 := hcell 2 (by omega)
        have k3 := hcell 3 (by omega)
        rw [add_add] at k0 k1 k2 k3
        exact ⟨(i0, i1, i2, i3), by simpa using k0, by simpa using k1, by simpa using k2, by simpa using k3⟩)
    refine ⟨some a, len, cap, q, rfl, fun i hi => ?_, by omega⟩
    obtain ⟨b, o, spot⟩ := a
    obtain ⟨h1, h2, h3, h4⟩ := hq i hi
    have hs : spot = none := by simpa [Addr.add] using World.cell?_spot (hq 0 (by omega)).1
    subst hs
    rw [Go.WideShapes.add_plain] at h1 h2 h3 h4
    exact ⟨b, o, rfl, block_lt_of_cell h1, h1, by rw [Nat.add_assoc]; exact h2, by rw [Nat.add_assoc]; exact h3, by rw [Nat.add_assoc]; exact h4⟩
theorem in_intsC {fuel : Nat} {v : Value} {x : DataW H × List MemPlace} (hf : DataW.trod enc Tryd.prog w base spare held fuel 40 [v] = some x) :
    ∃ (c : Option Addr) (n cap : Nat) (f : Nat → Int), v = .slice c n cap ∧ RowV w c n (iv f) ∧ n ≤ 9223372036854775807 := by
  rcases open_ints Tryd.underlying40 Tryd.underlying3 (by kernel_rfl) hf with ⟨hcs, _⟩ | ⟨x, l, c, zs, hcs, _, hl, hm, hz, _, hcell, hwz⟩
  · simp at hcs
    subst hcs
    exact ⟨none, 0, 0, fun _ => 0, rfl, fun i hi => absurd hi (by omega), by omega⟩
  · simp at hcs
    subst hcs
    unfold maxLen at hm
    have hz' : l ≤ zs.length := by
      rw [hz]
      split <;> omega
    refine ⟨_, l, c, fun i => zs.getD i 0, rfl, fun i hi => ?_, by omega⟩
    obtain ⟨b, o, spot⟩ := x
    have h1 := hcell i (by omega)
    have hs : spot = none := by simpa [Addr.add] using World.cell?_spot (hcell 0 (by omega))
    subst hs
    rw [Go.WideShapes.add_plain] at h1
    exact ⟨b, o, rfl, block_lt_of_cell h1, h1⟩
theorem arr1 {α : Type} {cs : Array α} (h : cs.size = 1) : ∃ c0, cs = #[c0] := by
  obtain ⟨l⟩ := cs
  match l, h with
  | [c0], _ => exact ⟨c0, rfl⟩
theorem in_circuit {r : Reach} {b0 : Nat} {v : Value} {d : DataW H} {p : List MemPlace} (hv : Value.okWide Tryd.prog w r b0 24 v) (h : DataW.Trod enc Tryd.prog w base spare held 24 v d p) :
    ∃ (c : Option Addr) (n cap : Nat) (G : Nat → Gt), v = .agg #[.slice c n cap] ∧ GatV w c n G ∧ n ≤ 9223372036854775807 := by
  obtain ⟨cs, rfl, hsz⟩ := okWide_struct Tryd.underlying24 hv
  have hc1 : Tryd.prog.cellsOf 24 = 1 := by kernel_rfl
  obtain ⟨c0, rfl⟩ := arr1 (hsz.trans hc1)
  obtain ⟨fuel, hf⟩ := h
  obtain ⟨xs, n, _, _, _, hlen, hh⟩ := DataW.trod_struct Tryd.underlying24 hf
  have g0 := hh 0 _ rfl
  have e4 : Tryd.prog.cellsOf 22 = 1 := by kernel_rfl
  simp [Value.cells, e4] at g0
  match xs, hlen with
  | [y0], _ =>
    simp at g0
    obtain ⟨cA, nA, pA, XA, rfl, hA, bA⟩ := in_gates g0
    exact ⟨cA, nA, pA, XA, rfl, hA, bA⟩
/-- A shape that reads as a text, a number and a bit holds these. -/
theorem shape_cells {fuel : Nat} {cs : List Value} {l : List UInt8} {n : Int} {b : Bool} {p : List MemPlace} (h : DataW.trod enc Tryd.prog w base spare held fuel 95 cs = some (.agg [.lit (.string l), .lit (.int .i64 n), .lit (.bool b)], p)) :
    cs = [.string ⟨l.toArray⟩, .int .i64 n, .bool b] := by
  obtain ⟨xs, k, hk, hxy, hcl, hxl, hf⟩ := DataW.trod_struct Tryd.underlying95 h
  rw [cellsSp] at hcl
  match xs, hxl, cs, hcl with
  | [y0, y1, y2], _, [v0, v1, v2], _ =>
    have g0 := hf 0 _ rfl
    have g1 := hf 1 _ rfl
    have g2 := hf 2 _ rfl
    simp [cellsIc, cellsSc, cellsBc] at g0 g1 g2
    obtain ⟨s, e0, d0, _⟩ := DataW.trod_string Tryd.underlying9 g0
    obtain ⟨i1, e1, d1, _⟩ := DataW.trod_int Tryd.underlying3 g1
    obtain ⟨i2, e2, d2⟩ := DataW.trod_bool Tryd.underlying4 g2
    simp at e0 e1 e2
    subst e0 e1 e2 d0 d1 d2
    simp at hxy
    obtain ⟨⟨rfl, rfl, rfl⟩, _⟩ := hxy
    simp
end
end Go.Proofs.YtgimmmmiodlepabDoor
