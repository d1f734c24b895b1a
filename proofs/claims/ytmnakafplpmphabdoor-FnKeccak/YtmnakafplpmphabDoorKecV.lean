/- Rows of bytes: what is appended to an empty slice; a row that was made. Conditions: bytes that can be read. -/
import Derived.Test.YtmnakafplpmphabDoorKecY
import Derived.Deep.AppendSrc
namespace Go.Proofs.YtmnakafplpmphabDoor
open Go.RowKit
set_option linter.unusedVariables false

theorem BRow.of_row {W : World} {B g n : Nat} {t : TypeId} {z : Nat → Int} (h : W.rowIs g t n (bb z)) (hB : B ≤ g) : BRow W B g n n z :=
  ⟨hB, h.lt, Nat.le_refl _, fun i hi => h.cell hi, fun i hi => ⟨by rw [h.cell hi]; rfl, h.frozen i⟩⟩
section
variable {P : Program}
/-- Bytes onto an empty slice. -/
theorem wpList_append_code (w : World) {ops : Array Oper} {rest : List Oper} {o : Oper} {a : Act} {Q : Exit → Act → World → Prop}
    (s x : Operand) (t : TypeId) (hg : o.guard = none) (hop : o.op = Op.call { callee := Callee.builtin Builtin.append, args := #[s, x], argTypes := #[t, t] })
    (e : TypeId) (i : TypeInfo) (z0 : Value) (h1 : P.underlying t = some (.slice e)) (h2 : P.info? e = some i) (h3 : i.zero = some z0) (h4 : i.size = 1) (h5 : i.bytes = 1) (h6 : z0.cells.size = 1)
    (B g : Nat) (hB : B ≤ g) (hgl : g < w.heap.size) (hs : a.eval s = .slice (some ⟨g, 0, none⟩) 0 0)
    (c : Option Addr) (n cap : Nat) (z : Nat → Int) (hx : a.eval x = .slice c n cap) (hv : RowV w c n (bb z)) (hn : n ≤ 1099511627776)
    (hK : ∀ g' cap' w', BRow w' B g' n cap' z → Chg nob w w' → wpList P ops Q rest (a.put o.dst (.slice (some ⟨g', 0, none⟩) n cap')) w') :
    wpList P ops Q (o :: rest) a w := by
  by_cases hz : n = 0
  · subst hz
    have hsrc : Go.Src P i.size t (.slice c 0 cap) 0 [] w := by
      cases c with
      | none => exact Go.Src.ofNil w h1 cap
      | some ad => exact Go.Src.ofSlice w h1 ad 0 cap [] (by simp) (by intro j u h; simp at h) (by intro u h; cases h)
    have hrun := run_append_room_src (P := P) w t t o.type e i h1 h2 g 0 0 0 _ 0 [] hsrc (by omega) (by intro j h; simp at h) (by intro j h; simp at h)
    refine wpList_plain hg fun K hK' => ?_
    unfold Oper.wp
    simp [execOp, hop, resolve, invoke, builtin, hs, hx, hrun, Result.andThen]
    exact hK' _ _ (hK g 0 _ ⟨hB, hgl, Nat.le_refl _, fun i hi => absurd hi (by omega), fun i hi => absurd hi (by omega)⟩ (Chg.refl _ _))
  · obtain ⟨xb, xo, rfl, hxb, hc⟩ := hv.all (by omega)
    refine wpList_append_grows w hg s x t hop e i z0 1 1 h1 h2 h3 h4 h5 h6 (by decide) (some ⟨g, 0, none⟩) 0 0 [] hs (by intro h; cases h) rfl (by intro b _ j u h; simp at h) ⟨xb, xo, none⟩ n cap ((List.range n).map (bb z)) hx (by simp) ?_ ?_ (by omega) (by unfold maxLen; omega) (by omega) ?_
    · intro j u h
      by_cases hj : j < n
      · rw [List.getElem?_map, List.getElem?_range hj] at h
        simp at h
        subst h
        rw [Go.WideShapes.add_plain]
        exact hc j hj
      · rw [List.getElem?_eq_none (by simp; omega)] at h
        cases h
    · intro u hu
      simp at hu
      obtain ⟨j, _, rfl⟩ := hu
      rfl
    · intro v' w' hown hgr
      rw [Nat.zero_add, List.nil_append] at hown
      obtain ⟨g', cap', rfl, hb'⟩ := BRow.of_owns hown (by omega)
      have := hK g' cap' w' ⟨Nat.le_trans hB (Nat.le_trans (Nat.le_of_lt hgl) hb'.lo), hb'.lt, hb'.le, hb'.at_, hb'.there⟩ ((Chg.refl _ _).grown hgr (fun k e => by cases e))
      exact this
end
end Go.Proofs.YtmnakafplpmphabDoor
