/- Rows of bytes that grow by append, out of a converted string too: words and laws. No program is named here. -/
import Derived.Test.YtabioonijjibnabDoorKecZ
import Derived.ArgAppend
import Derived.Lib.ConvBytes
namespace Go.Proofs.YtabioonijjibnabDoor
open Go.RowKit
set_option linter.unusedVariables false

/-- n bytes in a block from B on, all its places to be written. -/
structure BRow (W : World) (B : Nat) (g n cap : Nat) (z : Nat → Int) : Prop where
  lo : B ≤ g
  lt : g < W.heap.size
  le : n ≤ cap
  at_ : ∀ i, i < n → W.cell? ⟨g, i, none⟩ = some (.int .u8 (z i))
  there : ∀ i, i < cap → (W.cell? ⟨g, i, none⟩).isSome = true ∧ W.frozen? ⟨g, i, none⟩ = false
theorem BRow.row {W : World} {B g n cap : Nat} {z : Nat → Int} (h : BRow W B g n cap z) : RowV W (some ⟨g, 0, none⟩) n (bb z) :=
  fun i hi => ⟨g, 0, rfl, h.lt, by rw [Nat.zero_add]; exact h.at_ i hi⟩
theorem BRow.chg {P : Nat → Prop} {W W' : World} {B g n cap : Nat} {z : Nat → Int} (h : BRow W B g n cap z) (k : Chg P W W') (hp : ¬ P g) : BRow W' B g n cap z :=
  ⟨h.lo, Nat.lt_of_lt_of_le h.lt k.size, h.le, fun i hi => by rw [k.cell (p := ⟨g, i, none⟩) h.lt hp]; exact h.at_ i hi, fun i hi => by
    rw [k.cell (p := ⟨g, i, none⟩) h.lt hp, World.frozen?_of_block (a := ⟨g, i, none⟩) (k.block g h.lt hp)]; exact h.there i hi⟩
theorem BRow.keep {W W' : World} {B g n cap : Nat} {z : Nat → Int} (h : BRow W B g n cap z) (k : Chg nob W W') : BRow W' B g n cap z := h.chg k (fun x => x)
theorem BRow.alike {W : World} {B g n cap : Nat} {z y : Nat → Int} (h : BRow W B g n cap z) (e : ∀ i, i < n → z i = y i) : BRow W B g n cap y :=
  ⟨h.lo, h.lt, h.le, fun i hi => by rw [← e i hi]; exact h.at_ i hi, h.there⟩
theorem BRow.set {W : World} {B g n cap : Nat} {z : Nat → Int} (h : BRow W B g n cap z) (i : Nat) (hi : i < n) (u : Int) : BRow (W.setCell ⟨g, i, none⟩ (.int .u8 u)) B g n cap (fun j => if j = i then u else z j) := by
  have hh := h.le
  refine ⟨h.lo, by simpa using h.lt, h.le, fun j hj => ?_, fun j hj => ?_⟩
  · by_cases e : j = i
    · subst e
      rw [World.cell?_setCell_same W _ _ (h.at_ j hj)]
      simp
    · rw [World.cell?_setCell_other _ _ _ _ (by simp)]
      simp [e, h.at_ j hj]
  · refine ⟨?_, by rw [World.frozen?_setCell]; exact (h.there j hj).2⟩
    by_cases e : j = i
    · subst e
      rw [World.cell?_setCell_same W _ _ (h.at_ j hi)]
      rfl
    · rw [World.cell?_setCell_other _ _ _ _ (by simp)]
      exact (h.there j hj).1
theorem BRow.of_owns {W : World} {B n : Nat} {t : TypeId} {v : Value} {z : Nat → Int} (ho : W.ownsRow B t 1 v n ((List.range n).map (bb z))) (hn : 0 < n) : ∃ g cap, v = .slice (some ⟨g, 0, none⟩) n cap ∧ BRow W B g n cap z := by
  rcases ho.2 with ⟨_, h0⟩ | ⟨g, cap, cur, rfl, hb, hcur, hl, _, hsz, _⟩
  · exact absurd h0 (by omega)
  · refine ⟨g, cap, rfl, hb, (Array.getElem?_eq_some_iff.1 hcur).1, hl, fun i hi => ?_, fun i hi => ?_⟩
    · have := ho.cells rfl i (bb z i) (by simp [List.getElem?_map, List.getElem?_range hi])
      rw [Go.WideShapes.add_plain, Nat.zero_add] at this
      exact this
    · simp [World.cell?, World.frozen?, hcur]
      omega
/-- Bytes of a string, converted. -/
theorem BRow.of_string (w : World) (t : TypeId) (s : ByteArray) : BRow (Go.Lib.bytesWorld w t s) w.heap.size w.heap.size s.size (grownCap w s.size 0 t) (zs s) := by
  have hge := grownCap_ge w s.size 0 t
  have hat := Go.Lib.bytesWorld_at_new w t s
  have hsz : (Go.Lib.bytesCells w t s).size = grownCap w s.size 0 t := by
    unfold Go.Lib.bytesCells
    have : s.data.size = s.size := rfl
    simp [this]
    omega
  refine ⟨Nat.le_refl _, by rw [Go.Lib.bytesWorld_size]; omega, hge, fun i hi => ?_, fun i hi => ?_⟩
  · rw [Go.Lib.bytesWorld_cell w t s i hi]
    unfold zs
    rw [List.getD_eq_getElem?_getD]
  · simp [World.cell?, World.frozen?, hat, hsz]
    omega
theorem chg_string (w : World) (t : TypeId) (s : ByteArray) : Chg nob w (Go.Lib.bytesWorld w t s) :=
  ⟨rfl, rfl, rfl, by rw [Go.Lib.bytesWorld_size]; omega, fun k hk _ => Go.Lib.bytesWorld_at_old w t s k hk⟩

section
variable {P : Program}
/-- One byte more. -/
theorem wpList_append_brow (w : World) {ops : Array Oper} {rest : List Oper} {o : Oper} {a : Act} {Q : Exit → Act → World → Prop}
    (s x : Operand) (t : TypeId) (hg : o.guard = none) (hop : o.op = Op.call { callee := Callee.builtin Builtin.append, args := #[s, x], argTypes := #[t, t] })
    (e : TypeId) (i : TypeInfo) (z0 : Value) (h1 : P.underlying t = some (.slice e)) (h2 : P.info? e = some i) (h3 : i.zero = some z0) (h4 : i.size = 1) (h5 : i.bytes = 1) (h6 : z0.cells.size = 1)
    (B g n cap : Nat) (z : Nat → Int) (hB : B ≤ w.heap.size) (hs : a.eval s = .slice (some ⟨g, 0, none⟩) n cap) (hb : BRow w B g n cap z)
    (ad : Addr) (c : Nat) (u : Int) (hx : a.eval x = .slice (some ad) 1 c) (hc : w.cell? ad = some (.int .u8 u))
    (hn : n ≤ 1099511627776)
    (hK : ∀ g' cap' w', BRow w' B g' (n + 1) cap' (fun j => if j = n then u else z j) → Chg (fun b => B ≤ b) w w' → wpList P ops Q rest (a.put o.dst (.slice (some ⟨g', 0, none⟩) (n + 1) cap')) w') :
    wpList P ops Q (o :: rest) a w := by
  refine wpList_append_arg w hg s x t hop e i z0 1 1 h1 h2 h3 h4 h5 h6 (by decide) g 0 n cap ((List.range n).map (bb z)) hs (by simp) ?olds ad 1 c [.int .u8 u] hx rfl ?news (by intro v hv; simp at hv; subst hv; rfl) ?spare (by unfold maxLen; omega) (by omega) ?room ?grow
  case olds =>
    intro j v hj
    by_cases hjn : j < n
    · rw [List.getElem?_map, List.getElem?_range hjn] at hj
      simp at hj
      subst hj
      rw [Nat.zero_add]
      exact hb.at_ j hjn
    · rw [List.getElem?_eq_none (by simp; omega)] at hj
      cases hj
  case news =>
    intro j v hj
    match j, hj with
    | 0, hj =>
      simp at hj
      subst hj
      have : ad.add 0 = ad := by unfold Addr.add; simp
      rw [this]
      exact hc
    | j + 1, hj => simp at hj
  case spare =>
    intro hr j hj
    simp at hj
    subst hj
    simpa using hb.there n (by omega)
  case room =>
    intro hr
    refine hK g cap _ ⟨hb.lo, ?_, hr, fun j hj => ?_, fun j hj => ?_⟩ ?_
    · simpa [World.setCells] using hb.lt
    · by_cases ejn : j = n
      · subst ejn
        have := World.cell?_setCells_in g [.int .u8 u] (0 + j * 1) w (by intro k hk; simp at hk; subst hk; simpa using (hb.there j (by omega)).1) 0 (by simp)
        simpa using this
      · rw [World.cell?_setCells_out g [.int .u8 u] (0 + n * 1) w _ (by intro _ _; simp; omega)]
        simp [ejn]
        exact hb.at_ j (by omega)
    · refine ⟨?_, by rw [World.frozen?_setCells]; exact (hb.there j hj).2⟩
      by_cases ejn : j = n
      · subst ejn
        have := World.cell?_setCells_in g [.int .u8 u] (0 + j * 1) w (by intro k hk; simp at hk; subst hk; simpa using (hb.there j (by omega)).1) 0 (by simp)
        simp at this
        simp [this]
      · rw [World.cell?_setCells_out g [.int .u8 u] (0 + n * 1) w _ (by intro _ _; simp; omega)]
        exact (hb.there j hj).1
    · have : w.setCells g (0 + n * 1) [.int .u8 u] = w.setCell ⟨g, 0 + n * 1, none⟩ (.int .u8 u) := rfl
      rw [this]
      exact (Chg.refl _ _).setCell (p := ⟨g, 0 + n * 1, none⟩) (fun _ => hb.lo) _
  case grow =>
    intro hr v' w' hown hgr
    have ho : w'.ownsRow w.heap.size e 1 v' (n + 1) ((List.range (n + 1)).map (bb (fun j => if j = n then u else z j))) := by
      have e1 : (List.range (n + 1)).map (bb (fun j => if j = n then u else z j)) = (List.range n).map (bb z) ++ [.int .u8 u] := by
        rw [List.range_succ, List.map_append]
        congr 1
        · apply List.map_congr_left
          intro j hj
          have : j < n := by simpa using hj
          simp [bb, show ¬ j = n by omega]
        · simp [bb]
      rw [e1]
      exact hown
    obtain ⟨g', cap', rfl, hb'⟩ := BRow.of_owns ho (by omega)
    exact hK g' cap' w' ⟨Nat.le_trans hB hb'.lo, hb'.lt, hb'.le, hb'.at_, hb'.there⟩ ((Chg.refl _ _).grown hgr (fun k e => by cases e))
end
end Go.Proofs.YtabioonijjibnabDoor
