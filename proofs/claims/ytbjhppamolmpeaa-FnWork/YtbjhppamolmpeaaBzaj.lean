/- Several texts in one: Rows of bytes that grow by append, out of a converted string too: words and laws. No program is named here. · Bytes of a text that grow by append, out of a converted string too: words and laws. No program is named here. -/
import Derived.Test.YtbjhppamolmpeaaBzaa
import Derived.ArgAppend
import Derived.Lib.ConvBytes
import Derived.Test.YtbjhppamolmpeaaBzah
namespace Go.Proofs.Ytbjhppamolmpeaa
open Go.RowKit
set_option linter.unusedVariables false

/-- n bytes in a block from B on, all its places to be written. -/
structure BRow (W : World) (B : Nat) (g n cap : Nat) (z : Nat → Int) : Prop where
  lo : B ≤ g
  lt : g < W.heap.size
  le : n ≤ cap
  at_ : ∀ i, i < n → W.cell? ⟨g, i, none⟩ = some (.int .u8 (z i))
  there : ∀ i, i < cap → (W.cell? ⟨g, i, none⟩).isSome = true ∧ W.frozen? ⟨g, i, none⟩ = false
theorem BRow.row {W : World} {B g n cap : Nat} {z : Nat → Int} (h : BRow W B g n cap z) : RowV W (some ⟨g, 0, none⟩) n (bb z) :=
  fun i hi => ⟨g, 0, rfl, h.lt, by rw [Nat.zero_add]; exact h.at_ i hi⟩
theorem BRow.chg {P : Nat → Prop} {W W' : World} {B g n cap : Nat} {z : Nat → Int} (h : BRow W B g n cap z) (k : Chg P W W') (hp : ¬ P g) : BRow W' B g n cap z :=
  ⟨h.lo, Nat.lt_of_lt_of_le h.lt k.size, h.le, fun i hi => by rw [k.cell (p := ⟨g, i, none⟩) h.lt hp]; exact h.at_ i hi, fun i hi => by
    rw [k.cell (p := ⟨g, i, none⟩) h.lt hp, World.frozen?_of_block (a := ⟨g, i, none⟩) (k.block g h.lt hp)]; exact h.there i hi⟩
theorem BRow.keep {W W' : World} {B g n cap : Nat} {z : Nat → Int} (h : BRow W B g n cap z) (k : Chg nob W W') : BRow W' B g n cap z := h.chg k (fun x => x)
theorem BRow.set {W : World} {B g n cap : Nat} {z : Nat → Int} (h : BRow W B g n cap z) (i : Nat) (hi : i < n) (u : Int) : BRow (W.setCell ⟨g, i, none⟩ (.int .u8 u)) B g n cap (fun j => if j = i then u else z j) := by
  have hh := h.le
  refine ⟨h.lo, by simpa using h.lt, h.le, fun j hj => ?_, fun j hj => ?_⟩
  · by_cases e : j = i
    · subst e
      rw [World.cell?_setCell_same W _ _ (h.at_ j hj)]
      simp
    · rw [World.cell?_setCell_other _ _ _ _ (by simp)]
      simp [e, h.at_ j hj]
  · refine ⟨?_, by rw [World.frozen?_setCell]; exact (h.there j hj).2⟩
    by_cases e : j = i
    · subst e
      rw [World.cell?_setCell_same W _ _ (h.at_ j hi)]
      rfl
    · rw [World.cell?_setCell_other _ _ _ _ (by simp)]
      exact (h.there j hj).1

section
variable {P : Program}
end

end Go.Proofs.Ytbjhppamolmpeaa

namespace Go.Proofs.Ytbjhppamolmpeaa
open Go.RowKit
set_option linter.unusedVariables false

theorem zs_app (T U : ByteArray) (i : Nat) : zs (T ++ U) i = if i < T.size then zs T i else zs U (i - T.size) := by
  unfold zs
  have e : (T ++ U).data.toList = T.data.toList ++ U.data.toList := by simp
  have hs : T.data.toList.length = T.size := by simp
  rw [e, List.getElem?_append, hs]
  split <;> rfl
/-- n bytes, a text, in a block from B on, all its places to be written. -/
structure BT (W : World) (B g n cap : Nat) (T : ByteArray) : Prop where
  e : n = T.size
  r : BRow W B g n cap (zs T)
  m : cap ≤ maxLen
theorem BT.chg {P : Nat → Prop} {W W' : World} {B g n cap : Nat} {T : ByteArray} (h : BT W B g n cap T) (k : Chg P W W') (hp : ¬ P g) : BT W' B g n cap T := ⟨h.e, h.r.chg k hp, h.m⟩
theorem BT.keep {W W' : World} {B g n cap : Nat} {T : ByteArray} (h : BT W B g n cap T) (k : Chg nob W W') : BT W' B g n cap T := h.chg k (fun x => x)
theorem BT.low {W : World} {B B' g n cap : Nat} {T : ByteArray} (h : BT W B g n cap T) (l : B' ≤ B) : BT W B' g n cap T := ⟨h.e, ⟨Nat.le_trans l h.r.lo, h.r.lt, h.r.le, h.r.at_, h.r.there⟩, h.m⟩
/-- A text's bytes as values. -/
def bvs (T : ByteArray) : List Value := (List.range T.size).map (bb (zs T))
theorem bvs_len (T : ByteArray) : (bvs T).length = T.size := by simp [bvs]
theorem bvs_get (T : ByteArray) {j : Nat} {u : Value} (h : (bvs T)[j]? = some u) : j < T.size ∧ u = bb (zs T) j := by
  by_cases hj : j < T.size
  · unfold bvs at h
    rw [List.getElem?_map, List.getElem?_range hj] at h
    simp at h
    exact ⟨hj, h.symm⟩
  · rw [List.getElem?_eq_none (by rw [bvs_len]; omega)] at h
    cases h
theorem bvs_app (T U : ByteArray) : bvs T ++ bvs U = (List.range (T.size + U.size)).map (bb (zs (T ++ U))) := by
  apply List.ext_getElem
  · simp [bvs]
  · intro i h1 h2
    rw [List.getElem_append]
    split
    · rename_i h
      rw [bvs_len] at h
      simp [bvs, bb, zs_app, h]
    · rename_i h
      rw [bvs_len] at h
      simp [bvs, bb, zs_app, h]
theorem chg_setCells {P : Nat → Prop} {w : World} {g : Nat} (hp : P g) : ∀ (xs : List Value) (off : Nat) (W : World), Chg P w W → Chg P w (W.setCells g off xs)
  | [], _, _, k => k
  | x :: xs, off, W, k => chg_setCells hp xs (off + 1) (W.setCell ⟨g, off, none⟩ x) (k.setCell (p := ⟨g, off, none⟩) (fun _ => hp) x)
section
variable {P : Program}
theorem run_append_bt (w : World) (t ty e : TypeId) (i : TypeInfo) (z0 : Value) (h1 : P.underlying t = some (.slice e)) (h2 : P.info? e = some i) (h3 : i.zero = some z0) (h4 : i.size = 1) (h5 : i.bytes = 1) (h6 : z0.cells.size = 1)
    (B g n cap : Nat) (T : ByteArray) (hB : B ≤ w.heap.size) (hb : BT w B g n cap T) (ad : Addr) (m c : Nat) (U : ByteArray) (hm : m = U.size) (hc : ∀ j, j < U.size → w.cell? (ad.add j) = some (bb (zs U) j)) (hU : 0 < m) (hn : n + m ≤ 1000000) :
    ∃ g' cap' w', (Builtin.append_ #[t, t] ty #[.slice (some ⟨g, 0, none⟩) n cap, .slice (some ad) m c]).run P w = .ok (.slice (some ⟨g', 0, none⟩) (n + m) cap') w' ∧ BT w' B g' (n + m) cap' (T ++ U) ∧ Chg (fun b => b = g) w w' ∧ (g' = g ∨ w.heap.size ≤ g') := by
  obtain ⟨eN, r, hm'⟩ := hb
  subst hm
  subst eN
  have hnews : ∀ j u, (bvs U)[j]? = some u → w.cell? (ad.add j) = some u := fun j u h => by
    obtain ⟨a, rfl⟩ := bvs_get U h
    exact hc j a
  have holds : ∀ j u, (bvs T)[j]? = some u → w.cell? ((⟨g, 0, none⟩ : Addr).add j) = some u := fun j u h => by
    obtain ⟨a, rfl⟩ := bvs_get T h
    rw [Go.WideShapes.add_plain, Nat.zero_add]
    exact r.at_ j a
  have h1c : ∀ u ∈ bvs U, u.oneCell' = true := fun u hu => by
    obtain ⟨j, _, rfl⟩ := List.mem_map.1 hu
    rfl
  have hl1 : (bvs U).length = U.size * i.size := by rw [bvs_len, h4]; omega
  have hcell : ∀ j, j < T.size + U.size → (bvs T ++ bvs U)[j]? = some (bb (zs (T ++ U)) j) := fun j hj => by
    rw [bvs_app, List.getElem?_map, List.getElem?_range hj]
    rfl
  by_cases hr : T.size + U.size ≤ cap
  · have hsp : ∀ j, j < (bvs U).length → (w.cell? ⟨g, 0 + T.size * i.size + j, none⟩).isSome = true ∧ w.frozen? ⟨g, 0 + T.size * i.size + j, none⟩ = false := fun j hj => by
      rw [bvs_len] at hj
      rw [h4, Nat.mul_one, Nat.zero_add]
      exact r.there _ (by omega)
    have hrun := run_append_room_cells (P := P) w t ty e i h1 h2 g 0 T.size cap ad U.size c (bvs U) hl1 hnews h1c hr (fun j hj => (hsp j hj).1) (fun j hj => (hsp j hj).2)
    have hin : ∀ k, k < (bvs U).length → (w.cell? ⟨g, T.size + k, none⟩).isSome = true := fun k hk => by
      have := (hsp k hk).1
      rwa [h4, Nat.mul_one, Nat.zero_add] at this
    rw [h4, Nat.mul_one, Nat.zero_add] at hrun
    have kk : Chg (fun b => b = g) w (w.setCells g T.size (bvs U)) := chg_setCells (P := fun b => b = g) rfl _ _ _ (Chg.refl _ w)
    refine ⟨g, cap, _, hrun, ⟨ByteArray.size_append.symm, ⟨r.lo, Nat.lt_of_lt_of_le r.lt kk.size, hr, fun j hj => ?_, fun j hj => ?_⟩, hm'⟩, kk, .inl rfl⟩
    · by_cases ej : j < T.size
      · rw [World.cell?_setCells_out g (bvs U) T.size w _ (by intro _ _; simp; omega), r.at_ j ej, zs_app, if_pos ej]
      · have q := World.cell?_setCells_in g (bvs U) T.size w (by intro k hk; exact hin k hk) (j - T.size) (by rw [bvs_len]; omega)
        rw [show T.size + (j - T.size) = j by omega] at q
        rw [q, zs_app, if_neg ej]
        simp [bvs, bb]
    · refine ⟨?_, by rw [World.frozen?_setCells]; exact (r.there j hj).2⟩
      by_cases ej : j < T.size ∨ T.size + U.size ≤ j
      · rw [World.cell?_setCells_out g (bvs U) T.size w _ (by intro _ q; rw [bvs_len] at *; omega)]
        exact (r.there j hj).1
      · have q := World.cell?_setCells_in g (bvs U) T.size w (by intro k hk; exact hin k hk) (j - T.size) (by rw [bvs_len]; omega)
        rw [show T.size + (j - T.size) = j by omega] at q
        rw [q]
        rfl
  · obtain ⟨v', w', hrun, ho, hg⟩ := run_append_arg_grows (P := P) w t ty e i z0 1 1 h1 h2 h3 h4 h5 h6 (by omega) ⟨g, 0, none⟩ T.size cap (bvs T) (by rw [bvs_len]; omega) holds ad U.size c (bvs U) (by rw [bvs_len]; omega) hnews (by omega) (by unfold maxLen; omega) (by omega)
    rw [bvs_app] at ho
    rcases ho.2 with ⟨_, h0⟩ | ⟨g', cap', cur, rfl, hb, hcur, hl, hcm, hsz, _⟩
    · exact absurd h0 (by omega)
    · refine ⟨g', cap', w', hrun, ⟨ByteArray.size_append.symm, ⟨Nat.le_trans hB hb, (Array.getElem?_eq_some_iff.1 hcur).1, hl, fun j hj => ?_, fun j hj => ?_⟩, hcm⟩, (Chg.refl _ w).grown hg (fun k e => by cases e), .inr hb⟩
      · have := ho.cells rfl j (bb (zs (T ++ U)) j) (by simp [List.getElem?_map, List.getElem?_range hj])
        rw [Go.WideShapes.add_plain, Nat.zero_add] at this
        exact this
      · simp [World.cell?, World.frozen?, hcur]
        omega
variable (w : World) {ops : Array Oper} {rest : List Oper} {o : Oper} {a : Act} {Q : Exit → Act → World → Prop}
theorem wpList_append_bt (hgd : o.guard = none) (s x : Operand) (t : TypeId) (hop : o.op = Op.call { callee := Callee.builtin Builtin.append, args := #[s, x], argTypes := #[t, t] })
    (e : TypeId) (i : TypeInfo) (z0 : Value) (h1 : P.underlying t = some (.slice e)) (h2 : P.info? e = some i) (h3 : i.zero = some z0) (h4 : i.size = 1) (h5 : i.bytes = 1) (h6 : z0.cells.size = 1)
    (B g n cap : Nat) (T : ByteArray) (hs : a.eval s = .slice (some ⟨g, 0, none⟩) n cap) (hB : B ≤ w.heap.size) (hb : BT w B g n cap T) (ad : Addr) (m c : Nat) (U : ByteArray) (hx : a.eval x = .slice (some ad) m c) (hm : m = U.size) (hc : ∀ j, j < U.size → w.cell? (ad.add j) = some (bb (zs U) j)) (hU : 0 < m) (hn : n + m ≤ 1000000)
    (hK : ∀ g' cap' w', BT w' B g' (n + m) cap' (T ++ U) → Chg (fun b => b = g) w w' → (g' = g ∨ w.heap.size ≤ g') → wpList P ops Q rest (a.put o.dst (.slice (some ⟨g', 0, none⟩) (n + m) cap')) w') : wpList P ops Q (o :: rest) a w := by
  refine wpList_plain hgd fun K hK' => ?_
  obtain ⟨g', cap', w', hrun, r1, r2, r3⟩ := run_append_bt (P := P) w t o.type e i z0 h1 h2 h3 h4 h5 h6 B g n cap T hB hb ad m c U hm hc hU hn
  unfold Oper.wp execOp
  simp only [hop, resolve, invoke, builtin, Sem.run_bind, Sem.run_pure, Result.andThen_ok, List.map_toArray, List.map_cons, List.map_nil, hs, hx, hrun]
  exact hK' _ _ (hK g' cap' w' r1 r2 r3)
theorem stepL_append_bt {K : Act → World → Prop} {E : Prop} (s x : Operand) (t : TypeId) (hop : o.op = Op.call { callee := Callee.builtin Builtin.append, args := #[s, x], argTypes := #[t, t] }) (hw : Region.wanted o (yielded ops a.tmps) = true)
    (e : TypeId) (i : TypeInfo) (z0 : Value) (h1 : P.underlying t = some (.slice e)) (h2 : P.info? e = some i) (h3 : i.zero = some z0) (h4 : i.size = 1) (h5 : i.bytes = 1) (h6 : z0.cells.size = 1)
    (B g n cap : Nat) (T : ByteArray) (hs : a.eval s = .slice (some ⟨g, 0, none⟩) n cap) (hB : B ≤ w.heap.size) (hb : BT w B g n cap T) (ad : Addr) (m c : Nat) (U : ByteArray) (hx : a.eval x = .slice (some ad) m c) (hm : m = U.size) (hc : ∀ j, j < U.size → w.cell? (ad.add j) = some (bb (zs U) j)) (hU : 0 < m) (hn : n + m ≤ 1000000)
    (hK : ∀ g' cap' w', BT w' B g' (n + m) cap' (T ++ U) → Chg (fun b => b = g) w w' → (g' = g ∨ w.heap.size ≤ g') → K (a.put o.dst (.slice (some ⟨g', 0, none⟩) (n + m) cap')) w') : if Region.wanted o (yielded ops a.tmps) = true then Oper.wp P o a w K Q else E := by
  rw [if_pos hw]
  obtain ⟨g', cap', w', hrun, r1, r2, r3⟩ := run_append_bt (P := P) w t o.type e i z0 h1 h2 h3 h4 h5 h6 B g n cap T hB hb ad m c U hm hc hU hn
  unfold Oper.wp execOp
  simp only [hop, resolve, invoke, builtin, Sem.run_bind, Sem.run_pure, Result.andThen_ok, List.map_toArray, List.map_cons, List.map_nil, hs, hx, hrun]
  exact hK g' cap' w' r1 r2 r3
end

end Go.Proofs.Ytbjhppamolmpeaa
