/- Several texts in one: Rows of bytes that grow by append, out of a converted string too: words and laws. No program is named here. · Bytes of a text that grow by append, out of a converted string too: words and laws. No program is named here. -/
import Derived.Test.YtfbjlohnbpienaaGreatBzae
import Derived.ArgAppend
import Derived.Lib.ConvBytes
import Derived.Test.YtfbjlohnbpienaaGreatBzab
namespace Go.Proofs.YtfbjlohnbpienaaGreat
open Go.RowKit
set_option linter.unusedVariables false

/-- n bytes in a block from B on, all its places to be written. -/
structure BRow (W : World) (B : Nat) (g n cap : Nat) (z : Nat → Int) : Prop where
  lo : B ≤ g
  lt : g < W.heap.size
  le : n ≤ cap
  at_ : ∀ i, i < n → W.cell? ⟨g, i, none⟩ = some (.int .u8 (z i))
  there : ∀ i, i < cap → (W.cell? ⟨g, i, none⟩).isSome = true ∧ W.frozen? ⟨g, i, none⟩ = false
theorem BRow.row {W : World} {B g n cap : Nat} {z : Nat → Int} (h : BRow W B g n cap z) : RowV W (some ⟨g, 0, none⟩) n (bb z) :=
  fun i hi => ⟨g, 0, rfl, h.lt, by rw [Nat.zero_add]; exact h.at_ i hi⟩
theorem BRow.chg {P : Nat → Prop} {W W' : World} {B g n cap : Nat} {z : Nat → Int} (h : BRow W B g n cap z) (k : Chg P W W') (hp : ¬ P g) : BRow W' B g n cap z :=
  ⟨h.lo, Nat.lt_of_lt_of_le h.lt k.size, h.le, fun i hi => by rw [k.cell (p := ⟨g, i, none⟩) h.lt hp]; exact h.at_ i hi, fun i hi => by
    rw [k.cell (p := ⟨g, i, none⟩) h.lt hp, World.frozen?_of_block (a := ⟨g, i, none⟩) (k.block g h.lt hp)]; exact h.there i hi⟩
theorem BRow.keep {W W' : World} {B g n cap : Nat} {z : Nat → Int} (h : BRow W B g n cap z) (k : Chg nob W W') : BRow W' B g n cap z := h.chg k (fun x => x)
theorem BRow.set {W : World} {B g n cap : Nat} {z : Nat → Int} (h : BRow W B g n cap z) (i : Nat) (hi : i < n) (u : Int) : BRow (W.setCell ⟨g, i, none⟩ (.int .u8 u)) B g n cap (fun j => if j = i then u else z j) := by
  have hh := h.le
  refine ⟨h.lo, by simpa using h.lt, h.le, fun j hj => ?_, fun j hj => ?_⟩
  · by_cases e : j = i
    · subst e
      rw [World.cell?_setCell_same W _ _ (h.at_ j hj)]
      simp
    · rw [World.cell?_setCell_other _ _ _ _ (by simp)]
      simp [e, h.at_ j hj]
  · refine ⟨?_, by rw [World.frozen?_setCell]; exact (h.there j hj).2⟩
    by_cases e : j = i
    · subst e
      rw [World.cell?_setCell_same W _ _ (h.at_ j hi)]
      rfl
    · rw [World.cell?_setCell_other _ _ _ _ (by simp)]
      exact (h.there j hj).1
theorem BRow.of_owns {W : World} {B n : Nat} {t : TypeId} {v : Value} {z : Nat → Int} (ho : W.ownsRow B t 1 v n ((List.range n).map (bb z))) (hn : 0 < n) : ∃ g cap, v = .slice (some ⟨g, 0, none⟩) n cap ∧ BRow W B g n cap z := by
  rcases ho.2 with ⟨_, h0⟩ | ⟨g, cap, cur, rfl, hb, hcur, hl, _, hsz, _⟩
  · exact absurd h0 (by omega)
  · refine ⟨g, cap, rfl, hb, (Array.getElem?_eq_some_iff.1 hcur).1, hl, fun i hi => ?_, fun i hi => ?_⟩
    · have := ho.cells rfl i (bb z i) (by simp [List.getElem?_map, List.getElem?_range hi])
      rw [Go.WideShapes.add_plain, Nat.zero_add] at this
      exact this
    · simp [World.cell?, World.frozen?, hcur]
      omega
/-- Bytes of a string, converted. -/
theorem BRow.of_string (w : World) (t : TypeId) (s : ByteArray) : BRow (Go.Lib.bytesWorld w t s) w.heap.size w.heap.size s.size (grownCap w s.size 0 t) (zs s) := by
  have hge := grownCap_ge w s.size 0 t
  have hat := Go.Lib.bytesWorld_at_new w t s
  have hsz : (Go.Lib.bytesCells w t s).size = grownCap w s.size 0 t := by
    unfold Go.Lib.bytesCells
    have : s.data.size = s.size := rfl
    simp [this]
    omega
  refine ⟨Nat.le_refl _, by rw [Go.Lib.bytesWorld_size]; omega, hge, fun i hi => ?_, fun i hi => ?_⟩
  · rw [Go.Lib.bytesWorld_cell w t s i hi]
    unfold zs
    rw [List.getD_eq_getElem?_getD]
  · simp [World.cell?, World.frozen?, hat, hsz]
    omega
theorem chg_string (w : World) (t : TypeId) (s : ByteArray) : Chg nob w (Go.Lib.bytesWorld w t s) :=
  ⟨rfl, rfl, rfl, by rw [Go.Lib.bytesWorld_size]; omega, fun k hk _ => Go.Lib.bytesWorld_at_old w t s k hk⟩

section
variable {P : Program}
end

end Go.Proofs.YtfbjlohnbpienaaGreat

namespace Go.Proofs.YtfbjlohnbpienaaGreat
open Go.RowKit
set_option linter.unusedVariables false

/-- n bytes, a text, in a block from B on, all its places to be written. -/
structure BT (W : World) (B g n cap : Nat) (T : ByteArray) : Prop where
  e : n = T.size
  r : BRow W B g n cap (zs T)
  m : cap ≤ maxLen
theorem BT.chg {P : Nat → Prop} {W W' : World} {B g n cap : Nat} {T : ByteArray} (h : BT W B g n cap T) (k : Chg P W W') (hp : ¬ P g) : BT W' B g n cap T := ⟨h.e, h.r.chg k hp, h.m⟩
theorem BT.keep {W W' : World} {B g n cap : Nat} {T : ByteArray} (h : BT W B g n cap T) (k : Chg nob W W') : BT W' B g n cap T := h.chg k (fun x => x)
theorem BT.low {W : World} {B B' g n cap : Nat} {T : ByteArray} (h : BT W B g n cap T) (l : B' ≤ B) : BT W B' g n cap T := ⟨h.e, ⟨Nat.le_trans l h.r.lo, h.r.lt, h.r.le, h.r.at_, h.r.there⟩, h.m⟩
/-- A text's bytes as values. -/
def bvs (T : ByteArray) : List Value := (List.range T.size).map (bb (zs T))
theorem bvs_len (T : ByteArray) : (bvs T).length = T.size := by simp [bvs]
theorem bvs_get (T : ByteArray) {j : Nat} {u : Value} (h : (bvs T)[j]? = some u) : j < T.size ∧ u = bb (zs T) j := by
  by_cases hj : j < T.size
  · unfold bvs at h
    rw [List.getElem?_map, List.getElem?_range hj] at h
    simp at h
    exact ⟨hj, h.symm⟩
  · rw [List.getElem?_eq_none (by rw [bvs_len]; omega)] at h
    cases h
theorem chg_setCells {P : Nat → Prop} {w : World} {g : Nat} (hp : P g) : ∀ (xs : List Value) (off : Nat) (W : World), Chg P w W → Chg P w (W.setCells g off xs)
  | [], _, _, k => k
  | x :: xs, off, W, k => chg_setCells hp xs (off + 1) (W.setCell ⟨g, off, none⟩ x) (k.setCell (p := ⟨g, off, none⟩) (fun _ => hp) x)
section
variable {P : Program}
variable (w : World) {ops : Array Oper} {rest : List Oper} {o : Oper} {a : Act} {Q : Exit → Act → World → Prop}
end

end Go.Proofs.YtfbjlohnbpienaaGreat
