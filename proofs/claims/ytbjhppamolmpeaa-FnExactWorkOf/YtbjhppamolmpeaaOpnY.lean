/- Lists of entries that come in as an argument: what their cells hold. No condition but those that each theorem states. -/
import Derived.Test.YtbjhppamolmpeaaBzan
import Derived.Test.YtbjhppamolmpeaaIntRow
import Derived.Deep.Slices
import Derived.Deep.SlicePairs
import Derived.Lib.SmallJoins
import Derived.OpenShut
namespace Go.Proofs.Ytbjhppamolmpeaa
open Go.ChangeShapes Go.WideShapes Go.ChangeAt Go.RowKit Go.Deep Go.Joins
set_option linter.unusedVariables false
set_option maxRecDepth 100000
set_option linter.unusedSimpArgs false

theorem cellsEn : Try.prog.cellsOf 71 = 3 := by kernel_rfl
theorem cellsIn : Try.prog.cellsOf 3 = 1 := by kernel_rfl
section
variable {H : Type} {enc : TypeId × Value → H} {w : World} {base : Nat} {spare : Nat → Bool} {held : Bool}
theorem in_ents {fuel : Nat} {v : Value} {x : DataW H × List MemPlace} (hf : DataW.trod enc Try.prog w base spare held fuel 39 [v] = some x) :
    ∃ (c : Option Addr) (n cap : Nat) (X : Nat → En), v = .slice c n cap ∧ EntV w c n X ∧ n ≤ 9223372036854775807 := by
  rcases open_slice Try.underlying39 hf with ⟨hcs, _⟩ | ⟨a, len, cap, m, n, D, Pl, hcs, hb, hl, hm, hmm, _, hx⟩
  · simp at hcs
    subst hcs
    exact ⟨none, 0, 0, fun _ => (0, 0, 0), rfl, fun i hi => absurd hi (by omega), by omega⟩
  · simp at hcs
    subst hcs
    have hlm : len ≤ m := by rw [hmm]; split <;> omega
    unfold maxLen at hm
    obtain ⟨q, hq⟩ := choose_lt (α := En) (n := len) (p := fun i q => w.cell? (a.add (i * 3)) = some (.int .i64 q.1) ∧ w.cell? (a.add (i * 3 + 1)) = some (.int .i64 q.2.1) ∧ w.cell? (a.add (i * 3 + 2)) = some (.int .i64 q.2.2)) (fun i hi => by
      obtain ⟨cs', h1, h2⟩ := hx i (by omega)
      rw [cellsEn] at h1
      obtain ⟨_, hlen, hcell⟩ := World.cells?_some h1
      obtain ⟨xs, k, hk, hxy, _, hxl, hf⟩ := DataW.trod_struct Try.underlying71 h2
      match xs, hxl, cs', hlen with
      | [y0, y1, y2], _, [v0, v1, v2], _ =>
        have g0 := hf 0 _ rfl
        have g1 := hf 1 _ rfl
        have g2 := hf 2 _ rfl
        simp [cellsIn] at g0 g1 g2
        obtain ⟨i0, e0, _⟩ := DataW.trod_int Try.underlying3 g0
        obtain ⟨i1, e1, _⟩ := DataW.trod_int Try.underlying3 g1
        obtain ⟨i2, e2, _⟩ := DataW.trod_int Try.underlying3 g2
        simp at e0 e1 e2
        subst e0 e1 e2
        have k0 := hcell 0 (by omega)
        have k1 := hcell 1 (by omega)
        have k2 := hcell 2 (by omega)
        rw [add_add] at k0 k1 k2
        exact ⟨(i0, i1, i2), by simpa using k0, by simpa using k1, by simpa using k2⟩)
    refine ⟨some a, len, cap, q, rfl, fun i hi => ?_, by omega⟩
    obtain ⟨b, o, spot⟩ := a
    obtain ⟨h1, h2, h3⟩ := hq i hi
    have hs : spot = none := by simpa [Addr.add] using World.cell?_spot (hq 0 (by omega)).1
    subst hs
    rw [Go.WideShapes.add_plain] at h1 h2 h3
    exact ⟨b, o, rfl, block_lt_of_cell h1, h1, by rw [Nat.add_assoc]; exact h2, by rw [Nat.add_assoc]; exact h3⟩
theorem arr6 {α : Type} {cs : Array α} (h : cs.size = 6) : ∃ c0 c1 c2 c3 c4 c5, cs = #[c0, c1, c2, c3, c4, c5] := by
  obtain ⟨l⟩ := cs
  match l, h with
  | [c0, c1, c2, c3, c4, c5], _ => exact ⟨c0, c1, c2, c3, c4, c5, rfl⟩
theorem in_system {r : Reach} {b0 : Nat} {v : Value} {d : DataW H} {p : List MemPlace} (hv : Value.okWide Try.prog w r b0 41 v) (h : DataW.Trod enc Try.prog w base spare held 41 v d p) :
    ∃ (s : Sy) (a : SyA), v = .agg #[.int .i64 s.r, .int .i64 s.q, .int .i64 s.p, .slice a.cA s.nA a.pA, .slice a.cB s.nB a.pB, .slice a.cC s.nC a.pC] ∧ SyV w s a ∧ s.nA ≤ 9223372036854775807 ∧ s.nB ≤ 9223372036854775807 ∧ s.nC ≤ 9223372036854775807 := by
  obtain ⟨cs, rfl, hsz⟩ := okWide_struct Try.underlying41 hv
  have hc6 : Try.prog.cellsOf 41 = 6 := by kernel_rfl
  obtain ⟨c0, c1, c2, c3, c4, c5, rfl⟩ := arr6 (hsz.trans hc6)
  obtain ⟨fuel, hf⟩ := h
  obtain ⟨xs, n, _, _, _, hlen, hh⟩ := DataW.trod_struct Try.underlying41 hf
  have g0 := hh 0 _ rfl
  have g1 := hh 1 _ rfl
  have g2 := hh 2 _ rfl
  have g3 := hh 3 _ rfl
  have g4 := hh 4 _ rfl
  have g5 := hh 5 _ rfl
  have e4 : Try.prog.cellsOf 39 = 1 := by kernel_rfl
  simp [Value.cells, cellsIn, e4] at g0 g1 g2 g3 g4 g5
  match xs, hlen with
  | [y0, y1, y2, y3, y4, y5], _ =>
    simp at g0 g1 g2 g3 g4 g5
    obtain ⟨i0, e0, _⟩ := DataW.trod_int Try.underlying3 g0
    obtain ⟨i1, e1, _⟩ := DataW.trod_int Try.underlying3 g1
    obtain ⟨i2, e2, _⟩ := DataW.trod_int Try.underlying3 g2
    obtain ⟨cA, nA, pA, XA, rfl, hA, bA⟩ := in_ents g3
    obtain ⟨cB, nB, pB, XB, rfl, hB, bB⟩ := in_ents g4
    obtain ⟨cC, nC, pC, XC, rfl, hC, bC⟩ := in_ents g5
    simp at e0 e1 e2
    subst e0 e1 e2
    exact ⟨⟨i0, i1, i2, nA, nB, nC, XA, XB, XC⟩, ⟨cA, cB, cC, pA, pB, pC⟩, rfl, ⟨hA, hB, hC⟩, bA, bB, bC⟩
end

end Go.Proofs.Ytbjhppamolmpeaa
