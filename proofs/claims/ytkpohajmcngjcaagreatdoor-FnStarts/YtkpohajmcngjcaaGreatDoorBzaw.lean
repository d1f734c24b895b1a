/- Several texts in one: Rows of bytes that grow by append, out of a converted string too: words and laws. No program is named here. · Bytes of a text that grow by append, out of a converted string too: words and laws. No program is named here. · What the model's permutation answers: a contract. No condition. · What the model's hash and permutation of texts answer: contracts. Condition: a message of at most 2 to the 40 bytes. -/
import Derived.Test.YtkpohajmcngjcaaGreatDoorBzaa
import Derived.ArgAppend
import Derived.Lib.ConvBytes
import Derived.Test.YtkpohajmcngjcaaGreatDoorBzaf
import Derived.Test.YtkpohajmcngjcaaGreatDoorBzay
import Derived.Deep.RegionHeld3
import Derived.Deep.RegionWith
import Derived.BigRegion
import Derived.Deep.DeepCutAuto
import Derived.Deep.CutBlock
import Derived.Test.YtkpohajmcngjcaaGreatDoorBzax
namespace Go.Proofs.YtkpohajmcngjcaaGreatDoor
open Go.RowKit
set_option linter.unusedVariables false

/-- n bytes in a block from B on, all its places to be written. -/
structure BRow (W : World) (B : Nat) (g n cap : Nat) (z : Nat → Int) : Prop where
  lo : B ≤ g
  lt : g < W.heap.size
  le : n ≤ cap
  at_ : ∀ i, i < n → W.cell? ⟨g, i, none⟩ = some (.int .u8 (z i))
  there : ∀ i, i < cap → (W.cell? ⟨g, i, none⟩).isSome = true ∧ W.frozen? ⟨g, i, none⟩ = false
theorem BRow.row {W : World} {B g n cap : Nat} {z : Nat → Int} (h : BRow W B g n cap z) : RowV W (some ⟨g, 0, none⟩) n (bb z) :=
  fun i hi => ⟨g, 0, rfl, h.lt, by rw [Nat.zero_add]; exact h.at_ i hi⟩
theorem BRow.chg {P : Nat → Prop} {W W' : World} {B g n cap : Nat} {z : Nat → Int} (h : BRow W B g n cap z) (k : Chg P W W') (hp : ¬ P g) : BRow W' B g n cap z :=
  ⟨h.lo, Nat.lt_of_lt_of_le h.lt k.size, h.le, fun i hi => by rw [k.cell (p := ⟨g, i, none⟩) h.lt hp]; exact h.at_ i hi, fun i hi => by
    rw [k.cell (p := ⟨g, i, none⟩) h.lt hp, World.frozen?_of_block (a := ⟨g, i, none⟩) (k.block g h.lt hp)]; exact h.there i hi⟩
theorem BRow.keep {W W' : World} {B g n cap : Nat} {z : Nat → Int} (h : BRow W B g n cap z) (k : Chg nob W W') : BRow W' B g n cap z := h.chg k (fun x => x)
theorem BRow.alike {W : World} {B g n cap : Nat} {z y : Nat → Int} (h : BRow W B g n cap z) (e : ∀ i, i < n → z i = y i) : BRow W B g n cap y :=
  ⟨h.lo, h.lt, h.le, fun i hi => by rw [← e i hi]; exact h.at_ i hi, h.there⟩
theorem BRow.set {W : World} {B g n cap : Nat} {z : Nat → Int} (h : BRow W B g n cap z) (i : Nat) (hi : i < n) (u : Int) : BRow (W.setCell ⟨g, i, none⟩ (.int .u8 u)) B g n cap (fun j => if j = i then u else z j) := by
  have hh := h.le
  refine ⟨h.lo, by simpa using h.lt, h.le, fun j hj => ?_, fun j hj => ?_⟩
  · by_cases e : j = i
    · subst e
      rw [World.cell?_setCell_same W _ _ (h.at_ j hj)]
      simp
    · rw [World.cell?_setCell_other _ _ _ _ (by simp)]
      simp [e, h.at_ j hj]
  · refine ⟨?_, by rw [World.frozen?_setCell]; exact (h.there j hj).2⟩
    by_cases e : j = i
    · subst e
      rw [World.cell?_setCell_same W _ _ (h.at_ j hi)]
      rfl
    · rw [World.cell?_setCell_other _ _ _ _ (by simp)]
      exact (h.there j hj).1
theorem BRow.of_owns {W : World} {B n : Nat} {t : TypeId} {v : Value} {z : Nat → Int} (ho : W.ownsRow B t 1 v n ((List.range n).map (bb z))) (hn : 0 < n) : ∃ g cap, v = .slice (some ⟨g, 0, none⟩) n cap ∧ BRow W B g n cap z := by
  rcases ho.2 with ⟨_, h0⟩ | ⟨g, cap, cur, rfl, hb, hcur, hl, _, hsz, _⟩
  · exact absurd h0 (by omega)
  · refine ⟨g, cap, rfl, hb, (Array.getElem?_eq_some_iff.1 hcur).1, hl, fun i hi => ?_, fun i hi => ?_⟩
    · have := ho.cells rfl i (bb z i) (by simp [List.getElem?_map, List.getElem?_range hi])
      rw [Go.WideShapes.add_plain, Nat.zero_add] at this
      exact this
    · simp [World.cell?, World.frozen?, hcur]
      omega
/-- Bytes of a string, converted. -/
theorem BRow.of_string (w : World) (t : TypeId) (s : ByteArray) : BRow (Go.Lib.bytesWorld w t s) w.heap.size w.heap.size s.size (grownCap w s.size 0 t) (zs s) := by
  have hge := grownCap_ge w s.size 0 t
  have hat := Go.Lib.bytesWorld_at_new w t s
  have hsz : (Go.Lib.bytesCells w t s).size = grownCap w s.size 0 t := by
    unfold Go.Lib.bytesCells
    have : s.data.size = s.size := rfl
    simp [this]
    omega
  refine ⟨Nat.le_refl _, by rw [Go.Lib.bytesWorld_size]; omega, hge, fun i hi => ?_, fun i hi => ?_⟩
  · rw [Go.Lib.bytesWorld_cell w t s i hi]
    unfold zs
    rw [List.getD_eq_getElem?_getD]
  · simp [World.cell?, World.frozen?, hat, hsz]
    omega
theorem chg_string (w : World) (t : TypeId) (s : ByteArray) : Chg nob w (Go.Lib.bytesWorld w t s) :=
  ⟨rfl, rfl, rfl, by rw [Go.Lib.bytesWorld_size]; omega, fun k hk _ => Go.Lib.bytesWorld_at_old w t s k hk⟩

section
variable {P : Program}
/-- One byte more. -/
theorem wpList_append_brow (w : World) {ops : Array Oper} {rest : List Oper} {o : Oper} {a : Act} {Q : Exit → Act → World → Prop}
    (s x : Operand) (t : TypeId) (hg : o.guard = none) (hop : o.op = Op.call { callee := Callee.builtin Builtin.append, args := #[s, x], argTypes := #[t, t] })
    (e : TypeId) (i : TypeInfo) (z0 : Value) (h1 : P.underlying t = some (.slice e)) (h2 : P.info? e = some i) (h3 : i.zero = some z0) (h4 : i.size = 1) (h5 : i.bytes = 1) (h6 : z0.cells.size = 1)
    (B g n cap : Nat) (z : Nat → Int) (hB : B ≤ w.heap.size) (hs : a.eval s = .slice (some ⟨g, 0, none⟩) n cap) (hb : BRow w B g n cap z)
    (ad : Addr) (c : Nat) (u : Int) (hx : a.eval x = .slice (some ad) 1 c) (hc : w.cell? ad = some (.int .u8 u))
    (hn : n ≤ 1099511627776)
    (hK : ∀ g' cap' w', BRow w' B g' (n + 1) cap' (fun j => if j = n then u else z j) → Chg (fun b => B ≤ b) w w' → wpList P ops Q rest (a.put o.dst (.slice (some ⟨g', 0, none⟩) (n + 1) cap')) w') :
    wpList P ops Q (o :: rest) a w := by
  refine wpList_append_arg w hg s x t hop e i z0 1 1 h1 h2 h3 h4 h5 h6 (by decide) g 0 n cap ((List.range n).map (bb z)) hs (by simp) ?olds ad 1 c [.int .u8 u] hx rfl ?news (by intro v hv; simp at hv; subst hv; rfl) ?spare (by unfold maxLen; omega) (by omega) ?room ?grow
  case olds =>
    intro j v hj
    by_cases hjn : j < n
    · rw [List.getElem?_map, List.getElem?_range hjn] at hj
      simp at hj
      subst hj
      rw [Nat.zero_add]
      exact hb.at_ j hjn
    · rw [List.getElem?_eq_none (by simp; omega)] at hj
      cases hj
  case news =>
    intro j v hj
    match j, hj with
    | 0, hj =>
      simp at hj
      subst hj
      have : ad.add 0 = ad := by unfold Addr.add; simp
      rw [this]
      exact hc
    | j + 1, hj => simp at hj
  case spare =>
    intro hr j hj
    simp at hj
    subst hj
    simpa using hb.there n (by omega)
  case room =>
    intro hr
    refine hK g cap _ ⟨hb.lo, ?_, hr, fun j hj => ?_, fun j hj => ?_⟩ ?_
    · simpa [World.setCells] using hb.lt
    · by_cases ejn : j = n
      · subst ejn
        have := World.cell?_setCells_in g [.int .u8 u] (0 + j * 1) w (by intro k hk; simp at hk; subst hk; simpa using (hb.there j (by omega)).1) 0 (by simp)
        simpa using this
      · rw [World.cell?_setCells_out g [.int .u8 u] (0 + n * 1) w _ (by intro _ _; simp; omega)]
        simp [ejn]
        exact hb.at_ j (by omega)
    · refine ⟨?_, by rw [World.frozen?_setCells]; exact (hb.there j hj).2⟩
      by_cases ejn : j = n
      · subst ejn
        have := World.cell?_setCells_in g [.int .u8 u] (0 + j * 1) w (by intro k hk; simp at hk; subst hk; simpa using (hb.there j (by omega)).1) 0 (by simp)
        simp at this
        simp [this]
      · rw [World.cell?_setCells_out g [.int .u8 u] (0 + n * 1) w _ (by intro _ _; simp; omega)]
        exact (hb.there j hj).1
    · have : w.setCells g (0 + n * 1) [.int .u8 u] = w.setCell ⟨g, 0 + n * 1, none⟩ (.int .u8 u) := rfl
      rw [this]
      exact (Chg.refl _ _).setCell (p := ⟨g, 0 + n * 1, none⟩) (fun _ => hb.lo) _
  case grow =>
    intro hr v' w' hown hgr
    have ho : w'.ownsRow w.heap.size e 1 v' (n + 1) ((List.range (n + 1)).map (bb (fun j => if j = n then u else z j))) := by
      have e1 : (List.range (n + 1)).map (bb (fun j => if j = n then u else z j)) = (List.range n).map (bb z) ++ [.int .u8 u] := by
        rw [List.range_succ, List.map_append]
        congr 1
        · apply List.map_congr_left
          intro j hj
          have : j < n := by simpa using hj
          simp [bb, show ¬ j = n by omega]
        · simp [bb]
      rw [e1]
      exact hown
    obtain ⟨g', cap', rfl, hb'⟩ := BRow.of_owns ho (by omega)
    exact hK g' cap' w' ⟨Nat.le_trans hB hb'.lo, hb'.lt, hb'.le, hb'.at_, hb'.there⟩ ((Chg.refl _ _).grown hgr (fun k e => by cases e))
end

end Go.Proofs.YtkpohajmcngjcaaGreatDoor

namespace Go.Proofs.YtkpohajmcngjcaaGreatDoor
open Go.RowKit
set_option linter.unusedVariables false

theorem zs_app (T U : ByteArray) (i : Nat) : zs (T ++ U) i = if i < T.size then zs T i else zs U (i - T.size) := by
  unfold zs
  have e : (T ++ U).data.toList = T.data.toList ++ U.data.toList := by simp
  have hs : T.data.toList.length = T.size := by simp
  rw [e, List.getElem?_append, hs]
  split <;> rfl
theorem ba_assoc (a b c : ByteArray) : a ++ b ++ c = a ++ (b ++ c) := by
  apply ByteArray.ext
  simp [Array.append_assoc]
/-- n bytes, a text, in a block from B on, all its places to be written. -/
structure BT (W : World) (B g n cap : Nat) (T : ByteArray) : Prop where
  e : n = T.size
  r : BRow W B g n cap (zs T)
  m : cap ≤ maxLen
theorem BT.chg {P : Nat → Prop} {W W' : World} {B g n cap : Nat} {T : ByteArray} (h : BT W B g n cap T) (k : Chg P W W') (hp : ¬ P g) : BT W' B g n cap T := ⟨h.e, h.r.chg k hp, h.m⟩
theorem BT.keep {W W' : World} {B g n cap : Nat} {T : ByteArray} (h : BT W B g n cap T) (k : Chg nob W W') : BT W' B g n cap T := h.chg k (fun x => x)
theorem BT.low {W : World} {B B' g n cap : Nat} {T : ByteArray} (h : BT W B g n cap T) (l : B' ≤ B) : BT W B' g n cap T := ⟨h.e, ⟨Nat.le_trans l h.r.lo, h.r.lt, h.r.le, h.r.at_, h.r.there⟩, h.m⟩
/-- A text's bytes as values. -/
def bvs (T : ByteArray) : List Value := (List.range T.size).map (bb (zs T))
theorem bvs_len (T : ByteArray) : (bvs T).length = T.size := by simp [bvs]
theorem bvs_get (T : ByteArray) {j : Nat} {u : Value} (h : (bvs T)[j]? = some u) : j < T.size ∧ u = bb (zs T) j := by
  by_cases hj : j < T.size
  · unfold bvs at h
    rw [List.getElem?_map, List.getElem?_range hj] at h
    simp at h
    exact ⟨hj, h.symm⟩
  · rw [List.getElem?_eq_none (by rw [bvs_len]; omega)] at h
    cases h
theorem bvs_app (T U : ByteArray) : bvs T ++ bvs U = (List.range (T.size + U.size)).map (bb (zs (T ++ U))) := by
  apply List.ext_getElem
  · simp [bvs]
  · intro i h1 h2
    rw [List.getElem_append]
    split
    · rename_i h
      rw [bvs_len] at h
      simp [bvs, bb, zs_app, h]
    · rename_i h
      rw [bvs_len] at h
      simp [bvs, bb, zs_app, h]
theorem chg_setCells {P : Nat → Prop} {w : World} {g : Nat} (hp : P g) : ∀ (xs : List Value) (off : Nat) (W : World), Chg P w W → Chg P w (W.setCells g off xs)
  | [], _, _, k => k
  | x :: xs, off, W, k => chg_setCells hp xs (off + 1) (W.setCell ⟨g, off, none⟩ x) (k.setCell (p := ⟨g, off, none⟩) (fun _ => hp) x)
section
variable {P : Program}
theorem run_append_bt (w : World) (t ty e : TypeId) (i : TypeInfo) (z0 : Value) (h1 : P.underlying t = some (.slice e)) (h2 : P.info? e = some i) (h3 : i.zero = some z0) (h4 : i.size = 1) (h5 : i.bytes = 1) (h6 : z0.cells.size = 1)
    (B g n cap : Nat) (T : ByteArray) (hB : B ≤ w.heap.size) (hb : BT w B g n cap T) (ad : Addr) (m c : Nat) (U : ByteArray) (hm : m = U.size) (hc : ∀ j, j < U.size → w.cell? (ad.add j) = some (bb (zs U) j)) (hU : 0 < m) (hn : n + m ≤ 1000000) :
    ∃ g' cap' w', (Builtin.append_ #[t, t] ty #[.slice (some ⟨g, 0, none⟩) n cap, .slice (some ad) m c]).run P w = .ok (.slice (some ⟨g', 0, none⟩) (n + m) cap') w' ∧ BT w' B g' (n + m) cap' (T ++ U) ∧ Chg (fun b => b = g) w w' ∧ (g' = g ∨ w.heap.size ≤ g') := by
  obtain ⟨eN, r, hm'⟩ := hb
  subst hm
  subst eN
  have hnews : ∀ j u, (bvs U)[j]? = some u → w.cell? (ad.add j) = some u := fun j u h => by
    obtain ⟨a, rfl⟩ := bvs_get U h
    exact hc j a
  have holds : ∀ j u, (bvs T)[j]? = some u → w.cell? ((⟨g, 0, none⟩ : Addr).add j) = some u := fun j u h => by
    obtain ⟨a, rfl⟩ := bvs_get T h
    rw [Go.WideShapes.add_plain, Nat.zero_add]
    exact r.at_ j a
  have h1c : ∀ u ∈ bvs U, u.oneCell' = true := fun u hu => by
    obtain ⟨j, _, rfl⟩ := List.mem_map.1 hu
    rfl
  have hl1 : (bvs U).length = U.size * i.size := by rw [bvs_len, h4]; omega
  have hcell : ∀ j, j < T.size + U.size → (bvs T ++ bvs U)[j]? = some (bb (zs (T ++ U)) j) := fun j hj => by
    rw [bvs_app, List.getElem?_map, List.getElem?_range hj]
    rfl
  by_cases hr : T.size + U.size ≤ cap
  · have hsp : ∀ j, j < (bvs U).length → (w.cell? ⟨g, 0 + T.size * i.size + j, none⟩).isSome = true ∧ w.frozen? ⟨g, 0 + T.size * i.size + j, none⟩ = false := fun j hj => by
      rw [bvs_len] at hj
      rw [h4, Nat.mul_one, Nat.zero_add]
      exact r.there _ (by omega)
    have hrun := run_append_room_cells (P := P) w t ty e i h1 h2 g 0 T.size cap ad U.size c (bvs U) hl1 hnews h1c hr (fun j hj => (hsp j hj).1) (fun j hj => (hsp j hj).2)
    have hin : ∀ k, k < (bvs U).length → (w.cell? ⟨g, T.size + k, none⟩).isSome = true := fun k hk => by
      have := (hsp k hk).1
      rwa [h4, Nat.mul_one, Nat.zero_add] at this
    rw [h4, Nat.mul_one, Nat.zero_add] at hrun
    have kk : Chg (fun b => b = g) w (w.setCells g T.size (bvs U)) := chg_setCells (P := fun b => b = g) rfl _ _ _ (Chg.refl _ w)
    refine ⟨g, cap, _, hrun, ⟨ByteArray.size_append.symm, ⟨r.lo, Nat.lt_of_lt_of_le r.lt kk.size, hr, fun j hj => ?_, fun j hj => ?_⟩, hm'⟩, kk, .inl rfl⟩
    · by_cases ej : j < T.size
      · rw [World.cell?_setCells_out g (bvs U) T.size w _ (by intro _ _; simp; omega), r.at_ j ej, zs_app, if_pos ej]
      · have q := World.cell?_setCells_in g (bvs U) T.size w (by intro k hk; exact hin k hk) (j - T.size) (by rw [bvs_len]; omega)
        rw [show T.size + (j - T.size) = j by omega] at q
        rw [q, zs_app, if_neg ej]
        simp [bvs, bb]
    · refine ⟨?_, by rw [World.frozen?_setCells]; exact (r.there j hj).2⟩
      by_cases ej : j < T.size ∨ T.size + U.size ≤ j
      · rw [World.cell?_setCells_out g (bvs U) T.size w _ (by intro _ q; rw [bvs_len] at *; omega)]
        exact (r.there j hj).1
      · have q := World.cell?_setCells_in g (bvs U) T.size w (by intro k hk; exact hin k hk) (j - T.size) (by rw [bvs_len]; omega)
        rw [show T.size + (j - T.size) = j by omega] at q
        rw [q]
        rfl
  · obtain ⟨v', w', hrun, ho, hg⟩ := run_append_arg_grows (P := P) w t ty e i z0 1 1 h1 h2 h3 h4 h5 h6 (by omega) ⟨g, 0, none⟩ T.size cap (bvs T) (by rw [bvs_len]; omega) holds ad U.size c (bvs U) (by rw [bvs_len]; omega) hnews (by omega) (by unfold maxLen; omega) (by omega)
    rw [bvs_app] at ho
    rcases ho.2 with ⟨_, h0⟩ | ⟨g', cap', cur, rfl, hb, hcur, hl, hcm, hsz, _⟩
    · exact absurd h0 (by omega)
    · refine ⟨g', cap', w', hrun, ⟨ByteArray.size_append.symm, ⟨Nat.le_trans hB hb, (Array.getElem?_eq_some_iff.1 hcur).1, hl, fun j hj => ?_, fun j hj => ?_⟩, hcm⟩, (Chg.refl _ w).grown hg (fun k e => by cases e), .inr hb⟩
      · have := ho.cells rfl j (bb (zs (T ++ U)) j) (by simp [List.getElem?_map, List.getElem?_range hj])
        rw [Go.WideShapes.add_plain, Nat.zero_add] at this
        exact this
      · simp [World.cell?, World.frozen?, hcur]
        omega
variable (w : World) {ops : Array Oper} {rest : List Oper} {o : Oper} {a : Act} {Q : Exit → Act → World → Prop}
theorem wpList_append_bt (hgd : o.guard = none) (s x : Operand) (t : TypeId) (hop : o.op = Op.call { callee := Callee.builtin Builtin.append, args := #[s, x], argTypes := #[t, t] })
    (e : TypeId) (i : TypeInfo) (z0 : Value) (h1 : P.underlying t = some (.slice e)) (h2 : P.info? e = some i) (h3 : i.zero = some z0) (h4 : i.size = 1) (h5 : i.bytes = 1) (h6 : z0.cells.size = 1)
    (B g n cap : Nat) (T : ByteArray) (hs : a.eval s = .slice (some ⟨g, 0, none⟩) n cap) (hB : B ≤ w.heap.size) (hb : BT w B g n cap T) (ad : Addr) (m c : Nat) (U : ByteArray) (hx : a.eval x = .slice (some ad) m c) (hm : m = U.size) (hc : ∀ j, j < U.size → w.cell? (ad.add j) = some (bb (zs U) j)) (hU : 0 < m) (hn : n + m ≤ 1000000)
    (hK : ∀ g' cap' w', BT w' B g' (n + m) cap' (T ++ U) → Chg (fun b => b = g) w w' → (g' = g ∨ w.heap.size ≤ g') → wpList P ops Q rest (a.put o.dst (.slice (some ⟨g', 0, none⟩) (n + m) cap')) w') : wpList P ops Q (o :: rest) a w := by
  refine wpList_plain hgd fun K hK' => ?_
  obtain ⟨g', cap', w', hrun, r1, r2, r3⟩ := run_append_bt (P := P) w t o.type e i z0 h1 h2 h3 h4 h5 h6 B g n cap T hB hb ad m c U hm hc hU hn
  unfold Oper.wp execOp
  simp only [hop, resolve, invoke, builtin, Sem.run_bind, Sem.run_pure, Result.andThen_ok, List.map_toArray, List.map_cons, List.map_nil, hs, hx, hrun]
  exact hK' _ _ (hK g' cap' w' r1 r2 r3)
theorem stepL_append_bt {K : Act → World → Prop} {E : Prop} (s x : Operand) (t : TypeId) (hop : o.op = Op.call { callee := Callee.builtin Builtin.append, args := #[s, x], argTypes := #[t, t] }) (hw : Region.wanted o (yielded ops a.tmps) = true)
    (e : TypeId) (i : TypeInfo) (z0 : Value) (h1 : P.underlying t = some (.slice e)) (h2 : P.info? e = some i) (h3 : i.zero = some z0) (h4 : i.size = 1) (h5 : i.bytes = 1) (h6 : z0.cells.size = 1)
    (B g n cap : Nat) (T : ByteArray) (hs : a.eval s = .slice (some ⟨g, 0, none⟩) n cap) (hB : B ≤ w.heap.size) (hb : BT w B g n cap T) (ad : Addr) (m c : Nat) (U : ByteArray) (hx : a.eval x = .slice (some ad) m c) (hm : m = U.size) (hc : ∀ j, j < U.size → w.cell? (ad.add j) = some (bb (zs U) j)) (hU : 0 < m) (hn : n + m ≤ 1000000)
    (hK : ∀ g' cap' w', BT w' B g' (n + m) cap' (T ++ U) → Chg (fun b => b = g) w w' → (g' = g ∨ w.heap.size ≤ g') → K (a.put o.dst (.slice (some ⟨g', 0, none⟩) (n + m) cap')) w') : if Region.wanted o (yielded ops a.tmps) = true then Oper.wp P o a w K Q else E := by
  rw [if_pos hw]
  obtain ⟨g', cap', w', hrun, r1, r2, r3⟩ := run_append_bt (P := P) w t o.type e i z0 h1 h2 h3 h4 h5 h6 B g n cap T hB hb ad m c U hm hc hU hn
  unfold Oper.wp execOp
  simp only [hop, resolve, invoke, builtin, Sem.run_bind, Sem.run_pure, Result.andThen_ok, List.map_toArray, List.map_cons, List.map_nil, hs, hx, hrun]
  exact hK g' cap' w' r1 r2 r3
end

end Go.Proofs.YtkpohajmcngjcaaGreatDoor

namespace Go.Proofs.YtkpohajmcngjcaaGreatDoor
open Go.ChangeShapes Go.WideShapes Go.ChangeAt Go.RowKit
set_option linter.unusedVariables false
set_option linter.unusedSimpArgs false

set_option maxRecDepth 10000 in
set_option maxHeartbeats 4000000 in
theorem sPermute_any (a : Nat → Lane) (w : World) :
    Calls Tryz.prog 117 #[.agg (la a)] w fun e w' => e = .returned (.agg (la (prm a 24))) ∧ Chg nob w w' := by
  have HI := hik infoA
  have HIR := hik infoR
  have HIS := hik infoS
  have HIC := hik infoC
  go_enter Tryz.func117, Tryz.ntmps117
  go_wp2_with (first | (go_at_call 126; refine (sRounds_any _).mono ?_; rintro e W1 ⟨rfl, k1⟩; have hs1 := k1.size; simp at hs1; have A1 := hik (rowIs_keep ((rowIs_new w 25 (lv a) 154).alloc _) k1); have Z1 := hik (rowIs_keep (rowIs_at (w.alloc _) (w.heap.size + 1) (by simp) 25 lz 154 _ rfl) k1); have G1 := hik (Chg.trans (((Chg.refl nob w).alloc _).alloc _) k1); clear k1) | ((with_reducible refine wpList_store_all 165 (.tmp 3) (.tmp 14) rfl rfl W1.heap.size 24 rv ?hx ?hy 165 lz ?hr HIR.out (fun i _ => rfl) ?_); (case hx => rfl); (case hy => rfl); (case hr => exact rowIs_at _ _ rfl 24 lz _ _ rfl); intro W2 hr2 hg2; have R2 := hik hr2; have A2 := hik (rowIs_chg (A1.out.alloc _) hg2 (by omega)); have Z2 := hik (rowIs_chg (Z1.out.alloc _) hg2 (by omega)); have G2 := hik (Chg.near (G1.out.alloc _) hg2 (fun i e => by omega)); have hs2 := hr2.lt; clear hr2 hg2) | (go_at_call 127; refine (sShifts_any _).mono ?_; rintro e W3 ⟨rfl, k3⟩; have hs3 := k3.size; have A3 := hik (rowIs_keep A2.out k3); have Z3 := hik (rowIs_keep Z2.out k3); have R3 := hik (rowIs_keep R2.out k3); have G3 := hik (G2.out.trans k3); clear k3) | ((with_reducible refine wpList_store_all 167 (.tmp 4) (.tmp 15) rfl rfl W3.heap.size 25 sv ?hx ?hy 167 lz ?hr HIS.out (fun i _ => rfl) ?_); (case hx => rfl); (case hy => rfl); (case hr => exact rowIs_at _ _ rfl 25 lz _ _ rfl); intro W4 hr4 hg4; have P4 : Hid (PI w W4 W1.heap.size W3.heap.size (lv a)) := hik ⟨rowIs_chg (A3.out.alloc _) hg4 (by omega), rowIs_chg (Z3.out.alloc _) hg4 (by omega), rowIs_chg (R3.out.alloc _) hg4 (by omega), hr4, Chg.near (G3.out.alloc _) hg4 (fun i e => by omega), by omega, by omega⟩; clear hr4 hg4))
  clear A1 Z1 G1 R2 A2 Z2 G2 A3 Z3 R3 G3
  go_loopw [5] (fun i W => ∃ r : Nat, r ≤ 24 ∧ i = .int .i64 r ∧ Hid (PI w W W1.heap.size W3.heap.size (lv (prm a r)))) (fun i _ => 24 - (intOf i).toNat)
  case atStart => exact ⟨0, by omega, rfl, P4⟩
  case round =>
    clear P4
    obtain ⟨r, hr, rfl, HP⟩ := hrel
    obtain ⟨wo, hwo⟩ : ∃ x, x = wr := ⟨wr, rfl⟩
    subst hwo
    by_cases hlt : r < 24
    · have hlt' : (r : Int) < 24 := by omega
      have hl := HP.out.lt
      obtain ⟨A, hA⟩ : ∃ A, A = prm a r := ⟨_, rfl⟩
      rw [← hA] at HP
      have HA := hik hA
      clear hA
      go_wp2_with ((with_reducible refine wpList_store_all 169 (.tmp 6) (.tmp 20) rfl rfl wo.heap.size 5 lz ?hx ?hy 169 lz ?hr HIC.out (fun i _ => rfl) ?_); (case hx => rfl); (case hy => rfl); (case hr => exact rowIs_at _ _ rfl 5 lz _ _ rfl); intro W5 hr5 hg5; have C5 := hik hr5; have P5 := hik ((HP.out.keep ((Chg.refl nob _).alloc _)).chg hg5 (fun i e => by omega)); clear hr5 hg5)
      go_loopw [7] (fun i W => ∃ x : Nat, x ≤ 5 ∧ i = .int .i64 x ∧ Hid (W.rowIs wo.heap.size 169 5 (cX A x)) ∧ Hid (PI w W W1.heap.size W3.heap.size (lv A))) (fun i _ => 5 - (intOf i).toNat)
      case atStart => exact ⟨0, by omega, rfl, hik (C5.out.congr (fun i _ => by unfold cX; rw [if_neg (by omega)]; rfl)), P5⟩
      case round =>
        clear C5 P5 HP
        obtain ⟨x, hx, rfl, HC, HP⟩ := hrel
        by_cases hxt : x < 5
        · have hxt' : (x : Int) < 5 := by omega
          have c0 : wr.cell? ⟨w.heap.size, x, none⟩ = some (.int .u64 ((A x).toNat : Int)) := HP.out.a.cell (by omega)
          have c1 : wr.cell? ⟨w.heap.size, x + 5, none⟩ = some (.int .u64 ((A (x + 5)).toNat : Int)) := HP.out.a.cell (by omega)
          have c2 : wr.cell? ⟨w.heap.size, x + 10, none⟩ = some (.int .u64 ((A (x + 10)).toNat : Int)) := HP.out.a.cell (by omega)
          have c3 : wr.cell? ⟨w.heap.size, x + 15, none⟩ = some (.int .u64 ((A (x + 15)).toNat : Int)) := HP.out.a.cell (by omega)
          have c4 : wr.cell? ⟨w.heap.size, x + 20, none⟩ = some (.int .u64 ((A (x + 20)).toNat : Int)) := HP.out.a.cell (by omega)
          have c5 := HC.out.cell hxt
          have f5 := HC.out.frozen x
          have C2 := hik ((HC.out.set x (.int .u64 (bits .xor .u64 (bits .xor .u64 (bits .xor .u64 (bits .xor .u64 ((A x).toNat : Int) ((A (x + 5)).toNat : Int)) ((A (x + 10)).toNat : Int)) ((A (x + 15)).toNat : Int)) ((A (x + 20)).toNat : Int)))).congr (g := cX A (x + 1)) (fun i _ => cX_set A x i))
          have P2 := hik ((HP.out.setOut wo.heap.size x hl (.int .u64 (bits .xor .u64 (bits .xor .u64 (bits .xor .u64 (bits .xor .u64 ((A x).toNat : Int) ((A (x + 5)).toNat : Int)) ((A (x + 10)).toNat : Int)) ((A (x + 15)).toNat : Int)) ((A (x + 20)).toNat : Int)))).drew)
          go_wp2
          go_region
          all_goals
            go_wp2
            go_roundw
            case rel => exact ⟨x + 1, by omega, by go_num, C2, P2⟩
            case measure => simp [intOf]; omega
        · obtain rfl : x = 5 := by omega
          have C2 := hik (HC.out.congr (g := lv (col A)) (fun i hi => by unfold cX lv; rw [if_pos hi]))
          clear HC
          go_wp2
          go_loopw [8] (fun i W => ∃ k : Nat, k ≤ 25 ∧ i = .int .i64 k ∧ Hid (W.rowIs wo.heap.size 169 5 (lv (col A))) ∧ Hid (PI w W W1.heap.size W3.heap.size (tX A k))) (fun i _ => 25 - (intOf i).toNat)
          case atStart => exact ⟨0, by omega, rfl, C2, hik (HP.out.alike (fun i _ => by unfold tX; rw [if_neg (by omega)]; rfl))⟩
          case round =>
            clear C2 HP
            obtain ⟨k, hk, rfl, HC, HP⟩ := hrel
            by_cases hkt : k < 25
            · have hkt' : (k : Int) < 25 := by omega
              obtain ⟨q1, hq1⟩ : ∃ q, q = (k + 1) % 5 := ⟨_, rfl⟩
              obtain ⟨q4, hq4⟩ : ∃ q, q = (k + 4) % 5 := ⟨_, rfl⟩
              have l1 : (q1 : Int) < 5 := by omega
              have l4 : (q4 : Int) < 5 := by omega
              have m1 : ((k : Int) + 1) % 5 = (q1 : Int) := by omega
              have m4 : ((k : Int) + 4) % 5 = (q4 : Int) := by omega
              have v1 : IntKind.i64.wrap ((k : Int) + 1) = (k : Int) + 1 := by rw [IntKind.wrap_i64]; omega
              have v4 : IntKind.i64.wrap ((k : Int) + 4) = (k : Int) + 4 := by rw [IntKind.wrap_i64]; omega
              have t1 : ((k : Int) + 1).tmod 5 = (q1 : Int) := by rw [Int.tmod_eq_emod_of_nonneg (by omega)]; omega
              have t4 : ((k : Int) + 4).tmod 5 = (q4 : Int) := by rw [Int.tmod_eq_emod_of_nonneg (by omega)]; omega
              have c0 : wr.cell? ⟨w.heap.size, k, none⟩ = some (.int .u64 ((A k).toNat : Int)) := (HP.out.a.cell (by omega)).trans (by unfold tX; rw [if_neg (by omega)]; rfl)
              have f0 := HP.out.a.frozen k
              have c1 : wr.cell? ⟨wo.heap.size, q1, none⟩ = some (.int .u64 ((col A q1).toNat : Int)) := HC.out.cell (by omega)
              have c4 : wr.cell? ⟨wo.heap.size, q4, none⟩ = some (.int .u64 ((col A q4).toNat : Int)) := HC.out.cell (by omega)
              have P2 := hik ((HP.out.setA k (.int .u64 (bits .xor .u64 ((A k).toNat : Int) (bits .xor .u64 ((col A q4).toNat : Int) ((rotl (col A q1) 1).toNat : Int)))) (g := tX A (k + 1)) (fun i _ => by rw [hq1, hq4]; exact tX_set A k i)).drew)
              have C2 := hik (HC.out.setOther (a := ⟨w.heap.size, k, none⟩) (by have := HP.out.o3; have := HP.out.o4; simp only [ne_eq]; omega) (.int .u64 (bits .xor .u64 ((A k).toNat : Int) (bits .xor .u64 ((col A q4).toNat : Int) ((rotl (col A q1) 1).toNat : Int)))))
              clear hq1 hq4
              go_upto_block 5 with fail
              go_cut [8] (fun i W => i = .int .i64 k ∧ Hid (W.rowIs wo.heap.size 169 5 (lv (col A))) ∧ Hid (PI w W W1.heap.size W3.heap.size (tX A (k + 1))))
              case first =>
                go_wp2_with fail
                go_region_with ((go_at_call 128; refine (sTurn_one _ _).mono ?_; rintro e w' ⟨rfl, rfl⟩))
                all_goals
                  go_wp2_with fail
                  go_meet
                  exact ⟨rfl, C2, P2⟩
              case rest =>
                obtain ⟨rfl, HC3, HP3⟩ := hcut
                clear C2 P2 c0 f0 c1 c4 m1 m4 v1 v4 t1 t4 HC HP
                go_wp2
                go_roundw
                case rel => exact ⟨k + 1, by omega, by go_num, HC3, HP3⟩
                case measure => simp [intOf]; omega
            · obtain rfl : k = 25 := by omega
              have P1 := hik (HP.out.alike (g := lv (th A)) (fun i hi => by unfold tX lv; rw [if_pos hi]))
              clear HP HC
              obtain ⟨wb, hwb⟩ : ∃ x, x = wr := ⟨wr, rfl⟩
              subst hwb
              have hl2 := P1.out.lt
              go_wp2_with ((with_reducible refine wpList_store_all 154 (.tmp 9) (.tmp 71) rfl rfl wb.heap.size 25 lz ?hx ?hy 154 lz ?hr HI.out (fun i _ => rfl) ?_); (case hx => rfl); (case hy => rfl); (case hr => exact rowIs_at _ _ rfl 25 lz _ _ rfl); intro W6 hr6 hg6; have B6 := hik hr6; have P6 := hik ((P1.out.keep ((Chg.refl nob _).alloc _)).chg hg6 (fun i e => by omega)); clear hr6 hg6)
              go_loopw [10] (fun i W => ∃ x : Nat, x ≤ 5 ∧ i = .int .i64 x ∧ Hid (W.rowIs wb.heap.size 154 25 (pY (th A) x 0)) ∧ Hid (PI w W W1.heap.size W3.heap.size (lv (th A)))) (fun i _ => 5 - (intOf i).toNat)
              case atStart => exact ⟨0, by omega, rfl, hik (B6.out.congr (fun i _ => by unfold pY; rw [if_neg (by omega)]; rfl)), P6⟩
              case round =>
                clear B6 P6 P1
                obtain ⟨x, hx, rfl, HB, HP⟩ := hrel
                by_cases hxt : x < 5
                · have hxt' : (x : Int) < 5 := by omega
                  go_wp2
                  go_loopw [11] (fun i W => ∃ y : Nat, y ≤ 5 ∧ i = .int .i64 y ∧ Hid (W.rowIs wb.heap.size 154 25 (pY (th A) x y)) ∧ Hid (PI w W W1.heap.size W3.heap.size (lv (th A)))) (fun i _ => 5 - (intOf i).toNat)
                  case atStart => exact ⟨0, by omega, rfl, HB, HP⟩
                  case round =>
                    clear HB HP
                    obtain ⟨y, hy, rfl, HB, HP⟩ := hrel
                    by_cases hyt : y < 5
                    · have hyt' : (y : Int) < 5 := by omega
                      obtain ⟨T, hT⟩ : ∃ T, T = th A := ⟨_, rfl⟩
                      rw [← hT] at HB HP
                      have HT := hik hT
                      clear hT
                      have c0 : wr.cell? ⟨w.heap.size, x + 5 * y, none⟩ = some (.int .u64 ((T (x + 5 * y)).toNat : Int)) := HP.out.a.cell (by omega)
                      have c1 : wr.cell? ⟨W3.heap.size, x + 5 * y, none⟩ = some (.int .u64 (sh (x + 5 * y) : Int)) := HP.out.s.cell (by omega)
                      obtain ⟨q, hq⟩ : ∃ q, q = (2 * x + 3 * y) % 5 := ⟨_, rfl⟩
                      have q5 : q < 5 := by omega
                      have c2 := HB.out.cell (i := y + 5 * q) (by omega)
                      have f2 := HB.out.frozen (y + 5 * q)
                      have e1 : ((x : Int) + 5 * (y : Int)).toNat = x + 5 * y := by omega
                      have e2 : ((y : Int) + 5 * (q : Int)).toNat = y + 5 * q := by omega
                      have b0 : (0 : Int) ≤ (x : Int) + 5 * (y : Int) := by omega
                      have b1 : (x : Int) + 5 * (y : Int) < 25 := by omega
                      have b2 : (0 : Int) ≤ (y : Int) + 5 * (q : Int) := by omega
                      have b3 : (y : Int) + 5 * (q : Int) < 25 := by omega
                      have v0 : IntKind.i64.wrap (5 * (y : Int)) = 5 * (y : Int) := by rw [IntKind.wrap_i64]; omega
                      have v1 : IntKind.i64.wrap (2 * (x : Int)) = 2 * (x : Int) := by rw [IntKind.wrap_i64]; omega
                      have v2 : IntKind.i64.wrap (3 * (y : Int)) = 3 * (y : Int) := by rw [IntKind.wrap_i64]; omega
                      have v3 : IntKind.i64.wrap (2 * (x : Int) + 3 * (y : Int)) = 2 * (x : Int) + 3 * (y : Int) := by rw [IntKind.wrap_i64]; omega
                      have v4 : (2 * (x : Int) + 3 * (y : Int)).tmod 5 = (q : Int) := by rw [Int.tmod_eq_emod_of_nonneg (by omega)]; omega
                      have v5 : IntKind.i64.wrap (5 * (q : Int)) = 5 * (q : Int) := by rw [IntKind.wrap_i64]; omega
                      have v6 : IntKind.i64.wrap ((y : Int) + 5 * (q : Int)) = (y : Int) + 5 * (q : Int) := by rw [IntKind.wrap_i64]; omega
                      have v7 : IntKind.i64.wrap ((x : Int) + 5 * (y : Int)) = (x : Int) + 5 * (y : Int) := by rw [IntKind.wrap_i64]; omega
                      have hs := sh_le (x + 5 * y)
                      have P2 := hik ((HP.out.setOut wb.heap.size (y + 5 * q) hl2 (.int .u64 ((rotl (T (x + 5 * y)) (sh (x + 5 * y))).toNat : Int))).drew)
                      have B2 := hik ((HB.out.set (y + 5 * q) (.int .u64 ((rotl (T (x + 5 * y)) (sh (x + 5 * y))).toNat : Int))).congr (g := pY T x (y + 1)) (fun i hi => by rw [hq]; exact pY_set T x y i hi hxt hyt))
                      clear hq
                      have HK : Hid ((wr.setCell ⟨wb.heap.size, y + 5 * q, none⟩ (.int .u64 ((rotl (T (x + 5 * y)) (sh (x + 5 * y))).toNat : Int))).drew.cell? ⟨w.heap.size, x + 5 * y, none⟩ = some (.int .u64 ((T (x + 5 * y)).toNat : Int)) ∧ (wr.setCell ⟨wb.heap.size, y + 5 * q, none⟩ (.int .u64 ((rotl (T (x + 5 * y)) (sh (x + 5 * y))).toNat : Int))).drew.cell? ⟨W3.heap.size, x + 5 * y, none⟩ = some (.int .u64 (sh (x + 5 * y) : Int))) := hik ⟨P2.out.a.cell (by omega), P2.out.s.cell (by omega)⟩
                      go_wp2
                      go_region_held3 (fun w' => w'.cell? ⟨w.heap.size, x + 5 * y, none⟩ = some (.int .u64 ((T (x + 5 * y)).toNat : Int)) ∧ w'.cell? ⟨W3.heap.size, x + 5 * y, none⟩ = some (.int .u64 (sh (x + 5 * y) : Int))) (first | with_reducible exact HK.out | go_keep) ((go_at_call 128; refine (sTurn_any _ _ (by omega) _).mono ?_; rintro e w' ⟨rfl, rfl⟩))
                      go_wp2
                      go_roundw
                      case rel => exact ⟨y + 1, by omega, by go_num, hik (by rw [← HT.out]; exact B2.out), hik (by rw [← HT.out]; exact P2.out)⟩
                      case measure => simp [intOf]; omega
                    · obtain rfl : y = 5 := by omega
                      go_wp2
                      go_roundw
                      case rel => exact ⟨x + 1, by omega, by go_num, hik (HB.out.congr (fun i hi => by
                        unfold pY
                        by_cases h : sx i < x + 1
                        · rw [if_pos (by omega), if_pos (by omega)]
                        · rw [if_neg (by omega), if_neg (by omega)])), HP⟩
                      case measure => simp [intOf]; omega
                · obtain rfl : x = 5 := by omega
                  have B1 := hik (HB.out.congr (g := lv (pm (th A))) (fun i hi => by have := sx_lt i; unfold pY lv; rw [if_pos (by omega)]))
                  clear HB
                  go_wp2
                  go_loopw [12] (fun i W => ∃ x : Nat, x ≤ 5 ∧ i = .int .i64 x ∧ Hid (W.rowIs wb.heap.size 154 25 (lv (pm (th A)))) ∧ Hid (PI w W W1.heap.size W3.heap.size (cY (pm (th A)) (th A) x 0))) (fun i _ => 5 - (intOf i).toNat)
                  case atStart => exact ⟨0, by omega, rfl, B1, hik (HP.out.alike (fun i _ => by unfold cY; rw [if_neg (by omega)]; rfl))⟩
                  case round =>
                    clear B1 HP
                    obtain ⟨x, hx, rfl, HB, HP⟩ := hrel
                    by_cases hxt : x < 5
                    · have hxt' : (x : Int) < 5 := by omega
                      go_wp2
                      go_loopw [13] (fun i W => ∃ y : Nat, y ≤ 5 ∧ i = .int .i64 y ∧ Hid (W.rowIs wb.heap.size 154 25 (lv (pm (th A)))) ∧ Hid (PI w W W1.heap.size W3.heap.size (cY (pm (th A)) (th A) x y))) (fun i _ => 5 - (intOf i).toNat)
                      case atStart => exact ⟨0, by omega, rfl, HB, HP⟩
                      case round =>
                        clear HB HP
                        obtain ⟨y, hy, rfl, HB, HP⟩ := hrel
                        by_cases hyt : y < 5
                        · have hyt' : (y : Int) < 5 := by omega
                          obtain ⟨B, hB⟩ : ∃ B, B = pm (th A) := ⟨_, rfl⟩
                          rw [← hB] at HB HP
                          have HBB := hik hB
                          clear hB
                          obtain ⟨q2, hq2⟩ : ∃ q, q = (x + 2) % 5 := ⟨_, rfl⟩
                          obtain ⟨q1, hq1⟩ : ∃ q, q = (x + 1) % 5 := ⟨_, rfl⟩
                          have l1 : q1 < 5 := by omega
                          have l2 : q2 < 5 := by omega
                          have c0 : wr.cell? ⟨wb.heap.size, x + 5 * y, none⟩ = some (.int .u64 ((B (x + 5 * y)).toNat : Int)) := HB.out.cell (by omega)
                          have c1 : wr.cell? ⟨wb.heap.size, q1 + 5 * y, none⟩ = some (.int .u64 ((B (q1 + 5 * y)).toNat : Int)) := HB.out.cell (by omega)
                          have c2 : wr.cell? ⟨wb.heap.size, q2 + 5 * y, none⟩ = some (.int .u64 ((B (q2 + 5 * y)).toNat : Int)) := HB.out.cell (by omega)
                          have c3 := HP.out.a.cell (i := x + 5 * y) (by omega)
                          have f3 := HP.out.a.frozen (x + 5 * y)
                          have e0 : ((x : Int) + 5 * (y : Int)).toNat = x + 5 * y := by omega
                          have e1 : ((q1 : Int) + 5 * (y : Int)).toNat = q1 + 5 * y := by omega
                          have e2 : ((q2 : Int) + 5 * (y : Int)).toNat = q2 + 5 * y := by omega
                          have m1 : ((x : Int) + 1) % 5 = (q1 : Int) := by omega
                          have m2 : ((x : Int) + 2) % 5 = (q2 : Int) := by omega
                          have b0 : (0 : Int) ≤ (x : Int) + 5 * (y : Int) := by omega
                          have b1 : (0 : Int) ≤ (q1 : Int) + 5 * (y : Int) := by omega
                          have b2 : (0 : Int) ≤ (q2 : Int) + 5 * (y : Int) := by omega
                          have d0 : (x : Int) + 5 * (y : Int) < 25 := by omega
                          have d1 : (q1 : Int) + 5 * (y : Int) < 25 := by omega
                          have d2 : (q2 : Int) + 5 * (y : Int) < 25 := by omega
                          have P2 := hik ((HP.out.setA (x + 5 * y) (.int .u64 (bits .xor .u64 ((B (x + 5 * y)).toNat : Int) (bits .and .u64 (bits .xor .u64 18446744073709551615 ((B (q1 + 5 * y)).toNat : Int)) ((B (q2 + 5 * y)).toNat : Int)))) (g := cY B (th A) x (y + 1)) (fun i _ => by rw [hq1, hq2]; exact cY_set B (th A) x y i hxt)).drew)
                          have B2 := hik (HB.out.setOther (a := ⟨w.heap.size, x + 5 * y, none⟩) (by have := HP.out.o3; have := HP.out.o4; simp only [ne_eq]; omega) (.int .u64 (bits .xor .u64 ((B (x + 5 * y)).toNat : Int) (bits .and .u64 (bits .xor .u64 18446744073709551615 ((B (q1 + 5 * y)).toNat : Int)) ((B (q2 + 5 * y)).toNat : Int)))))
                          clear hq1 hq2
                          go_wp2
                          go_region
                          all_goals
                            go_wp2
                            go_roundw
                            case rel => exact ⟨y + 1, by omega, by go_num, hik (by rw [← HBB.out]; exact B2.out), hik (by rw [← HBB.out]; exact P2.out)⟩
                            case measure => simp [intOf]; omega
                        · obtain rfl : y = 5 := by omega
                          go_wp2
                          go_roundw
                          case rel => exact ⟨x + 1, by omega, by go_num, HB, hik (HP.out.alike (fun i hi => by
                            unfold cY
                            by_cases h : i % 5 < x + 1
                            · rw [if_pos (by omega), if_pos (by omega)]
                            · rw [if_neg (by omega), if_neg (by omega)]))⟩
                          case measure => simp [intOf]; omega
                    · obtain rfl : x = 5 := by omega
                      obtain ⟨B, hB⟩ : ∃ B, B = ch (pm (th A)) := ⟨_, rfl⟩
                      have P1 := hik (HP.out.alike (g := lv B) (fun i hi => by rw [hB]; unfold cY lv; rw [if_pos (by omega)]))
                      have HBB := hik hB
                      clear HP HB hB
                      have c0 : wr.cell? ⟨w.heap.size, 0, none⟩ = some (.int .u64 ((B 0).toNat : Int)) := P1.out.a.cell (by omega)
                      have f0 := P1.out.a.frozen 0
                      have c1 : wr.cell? ⟨W1.heap.size, r, none⟩ = some (.int .u64 (rcn r : Int)) := P1.out.r.cell (by omega)
                      have P2 := hik ((P1.out.setA 0 (.int .u64 (bits .xor .u64 ((B 0).toNat : Int) (rcn r : Int))) (g := lv (prm a (r + 1))) (fun i _ => by rw [HBB.out, HA.out]; exact rnd_set a r i)).drew)
                      go_wp2
                      go_region
                      all_goals
                        go_wp2
                        go_roundw
                        case rel => exact ⟨r + 1, by omega, by go_num, P2⟩
                        case measure => simp [intOf]; omega
    · obtain rfl : r = 24 := by omega
      go_wp2_with (first | ((with_reducible refine wpList_load_all 154 (.tmp 1) rfl rfl w.heap.size ?hx 25 141 (lv (prm a 24)) 154 HP.out.a Tryz.underlying154 HI.out ?_); (case hx => rfl)) | ((with_reducible refine wpList_store_all 154 (.tmp 2) (.tmp 148) rfl rfl (w.heap.size + 1) 25 (lv (prm a 24)) ?hx ?hy 154 lz HP.out.z HI.out (fun i _ => lv_one _ i) ?_); (case hx => rfl); (case hy => rfl); intro W2 hr2 hg2; have HR2 := hik hr2; have HG2 := hik (HP.out.g.near hg2 (fun i e => by omega)); clear hr2 hg2))
      exact bodyPost_ret (results_all rfl _ _ (w.heap.size + 1) rfl 25 _ (lv (prm a 24)) _ HR2.out Tryz.underlying154 HI.out) rfl ⟨rfl, HG2.out⟩

end Go.Proofs.YtkpohajmcngjcaaGreatDoor

namespace Go.Proofs.YtkpohajmcngjcaaGreatDoor
open Go.ChangeShapes Go.WideShapes Go.ChangeAt Go.RowKit
set_option linter.unusedVariables false
set_option linter.unusedSimpArgs false

theorem zs_B (s : ByteArray) : isB (zs s) := fun i => ⟨zs_lo s i, zs_hi s i⟩

theorem or128 (v : Int) (h0 : 0 ≤ v) (h1 : v ≤ 1) : bits .or .u8 v 128 = v + 128 := by
  have : v = 0 ∨ v = 1 := by omega
  rcases this with rfl | rfl <;> decide
theorem pn_mod (n : Nat) : pn n % 136 = 0 := by unfold pn; omega
theorem pn_not (n m : Nat) (h1 : n < m) (h2 : m < pn n) : ¬ m % 136 = 0 := by unfold pn at h2; omega
/-- The state with the lanes below k of a block taken in. -/
def xX (a x : Nat → Lane) (k i : Nat) : Value := if i < k then lw (a i ^^^ x i) else lw (a i)
theorem xX_set (a x : Nat → Lane) (k i : Nat) : (if i = k then Value.int .u64 (bits .xor .u64 ((a k).toNat : Int) ((x k).toNat : Int)) else xX a x k i) = xX a x (k + 1) i := by
  rw [xor64]
  unfold xX
  by_cases e : i = k
  · subst e; rw [if_pos rfl, if_pos (by omega)]; rfl
  · rw [if_neg e]
    by_cases h : i < k
    · rw [if_pos h, if_pos (by omega)]
    · rw [if_neg h, if_neg (by omega)]

set_option maxRecDepth 100000 in
set_option maxHeartbeats 4000000 in
theorem sHash_any (s : ByteArray) (w : World) (hs : s.size ≤ 1048576) :
    Calls Tryz.prog 103 #[.string s] w fun e w' => e = .returned (.string (bt (lb (hst (pd (zs s) s.size) (s.size / 136 + 1))) 32)) ∧ Chg nob w w' := by
  obtain ⟨n, hn⟩ : ∃ n, n = s.size := ⟨_, rfl⟩
  obtain ⟨z, hzz⟩ : ∃ z, z = zs s := ⟨_, rfl⟩
  have hzB : isB z := by rw [hzz]; exact zs_B s
  obtain ⟨W0, cap0, hcv, HB0, HG0⟩ : ∃ W0 cap0, (convert 9 53 (.string s)).run Tryz.prog w = .ok (.slice (some ⟨w.heap.size, 0, none⟩) n cap0) W0 ∧ Hid (BRow W0 w.heap.size w.heap.size n cap0 z) ∧ Hid (Chg nob w W0) := by
    rw [hn, hzz]
    exact ⟨_, _, Go.Lib.run_convert_string_bytes w 9 53 5 s Tryz.underlying9 Tryz.underlying53 Tryz.underlying5, hik (BRow.of_string w 5 s), hik (chg_string w 5 s)⟩
  rw [← hn, ← hzz]
  rw [← hn] at hs
  have HZB := hik hzB
  clear hn hzz hzB
  obtain ⟨i0, hi, hz0, hz1, hz2⟩ := info_parts infoB
  have HI := hik hi
  have HZ0 := hik hz0
  have HZ1 := hik hz1
  have HZ2 := hik hz2
  clear hi hz0 hz1 hz2
  have HIA := hik infoA
  have hl0 := HB0.out.lt
  go_enter Tryz.func103, Tryz.ntmps103
  go_wp2_with (at_builtin; refine wpList_append_brow _ (.tmp 9) (.tmp 10) 53 rfl rfl 5 i0 (.int .u8 0) Tryz.underlying53 HI.out HZ0.out HZ1.out HZ2.out rfl w.heap.size w.heap.size n cap0 z (by simp; omega) rfl (HB0.out.keep ((Chg.refl nob W0).alloc _)) ⟨W0.heap.size, 0, none⟩ 1 1 rfl (by simp) (by omega) ?_; intro g1 cap1 W1 hb1 hg1; have B1 := hik (hb1.alike (y := pz z n) (fun i hi => by unfold pz; split <;> split <;> first | rfl | omega)); have G1 := hik (Chg.near (HG0.out.alloc _) hg1 (fun i e => e)); clear hb1 hg1)
  clear hcv hl0 HB0 HG0
  have hpn := pn_gt n
  have hpl := pn_le n
  go_loopw [3] (fun v W => ∃ m g cap : Nat, n < m ∧ m ≤ pn n ∧ v = .slice (some ⟨g, 0, none⟩) m cap ∧ Hid (BRow W w.heap.size g m cap (pz z n)) ∧ Hid (Chg nob w W)) (fun v _ => match v with | .slice _ m _ => pn n - m | _ => 0)
  case atStart => exact ⟨n + 1, g1, cap1, by omega, by omega, rfl, B1, G1⟩
  case round =>
    clear B1 G1
    obtain ⟨m, g, cap, hnm, hmp, rfl, HB, HG⟩ := hrel
    have hsz := HG.out.size
    by_cases hlt : m < pn n
    · have hmod : ¬ (m : Int) % 136 = 0 := by have := pn_not n m hnm hlt; omega
      have hmb : ((m : Int) % 136 != 0) = true := by simpa using hmod
      go_wp2_with (at_builtin; refine wpList_append_brow _ (.tmp 16) (.tmp 17) 53 rfl rfl 5 i0 (.int .u8 0) Tryz.underlying53 HI.out HZ0.out HZ1.out HZ2.out rfl w.heap.size g m cap (pz z n) (by simp; omega) rfl (HB.out.keep ((Chg.refl nob wr).alloc _)) ⟨wr.heap.size, 0, none⟩ 1 0 rfl (by simp) (by omega) ?_; intro g2 cap2 W2 hb2 hg2; have B2 := hik (hb2.alike (y := pz z n) (fun i hi => by unfold pz; repeat' split; all_goals first | rfl | omega)); have G2 := hik (Chg.near (HG.out.alloc _) hg2 (fun i e => e)); clear hb2 hg2)
      go_roundw
      case rel => exact ⟨m + 1, g2, cap2, by omega, by omega, rfl, B2, G2⟩
      case measure => simp; omega
    · obtain ⟨N, hN⟩ : ∃ N, N = pn n := ⟨_, rfl⟩
      obtain rfl : m = N := by omega
      have hmod : (m : Int) % 136 = 0 := by have := pn_mod n; omega
      have hmb : ((m : Int) % 136 != 0) = false := by simp [hmod]
      have e1 : ((m : Int) - 1).toNat = m - 1 := by omega
      have b1 : (0 : Int) ≤ (m : Int) - 1 := by omega
      have b2 : (m : Int) - 1 < (m : Int) := by omega
      have c1 : wr.cell? ⟨g, m - 1, none⟩ = some (.int .u8 (pz z n (m - 1))) := HB.out.at_ (m - 1) (by omega)
      have f1 := (HB.out.there (m - 1) (by have := HB.out.le; omega)).2
      have o1 := or128 (pz z n (m - 1)) (pz_end z n (m - 1) (by omega)).1 (pz_end z n (m - 1) (by omega)).2
      have B2 := hik ((HB.out.set (m - 1) (by omega) (pz z n (m - 1) + 128)).alike (y := pd z n) (fun i hi => by
        unfold pd
        by_cases e : i = m - 1
        · rw [if_pos e, if_pos (by omega), e]
        · rw [if_neg e, if_neg (by omega)]))
      have G2 := hik (HG.out.setCell (p := ⟨g, m - 1, none⟩) (fun l => absurd l (by have := HB.out.lo; simp; omega)) (.int .u8 (pz z n (m - 1) + 128)))
      have hgl := HB.out.lt
      have hle := HB.out.le
      have HN := hik hN
      have hm2 : m ≤ 1048712 := by omega
      clear hN hmp hpl hpn hlt
      obtain ⟨wa, hwa⟩ : ∃ x, x = wr := ⟨wr, rfl⟩
      subst hwa
      go_wp2_with ((with_reducible refine wpList_store_all 154 (.tmp 4) (.tmp 27) rfl rfl wa.heap.size 25 lz ?hx ?hy 154 lz ?hr HIA.out (fun i _ => rfl) ?_); (case hx => rfl); (case hy => rfl); (case hr => exact rowIs_at _ _ (by simp) 25 lz _ _ rfl); intro W3 hr3 hg3; have A3 := hik hr3; have B3 := hik ((B2.out.keep ((Chg.refl nob _).alloc _)).chg hg3 (by omega)); have G3 := hik (Chg.near (G2.out.alloc _) hg3 (fun i e => by omega)); clear hr3 hg3)
      clear B2 G2 c1 f1 o1 e1 b1 b2 HB HG hmb hmod
      have HP := hik (pd_B z n HZB.out)
      go_loopw [5] (fun i W => ∃ j : Nat, j ≤ n / 136 + 1 ∧ i = .int .i64 (136 * (j : Int)) ∧ Hid (BRow W w.heap.size g m cap (pd z n)) ∧ Hid (W.rowIs wa.heap.size 154 25 (lv (hst (pd z n) j))) ∧ Hid (Chg nob w W)) (fun i _ => m + 136 - (intOf i).toNat)
      case atStart => exact ⟨0, by omega, rfl, B3, hik (A3.out.congr (fun i _ => rfl)), G3⟩
      case round =>
        clear B3 A3 G3
        obtain ⟨j, hj, rfl, HB, HA, HG⟩ := hrel
        by_cases hjt : j < n / 136 + 1
        · have hjm : 136 * j + 136 ≤ m := by have := HN.out; unfold pn at this; omega
          have q1 : 136 * (j : Int) < (m : Int) := by omega
          have q2 : (0 : Int) ≤ 136 * (j : Int) := by omega
          have q3 : 136 * (j : Int) + 136 ≤ (m : Int) := by omega
          have q4 : 136 * (j : Int) + 136 ≤ (cap : Int) := by omega
          have q5 : (136 * (j : Int)).toNat = 136 * j := by omega
          have q6 : (136 * (j : Int) + 136).toNat = 136 * j + 136 := by omega
          have q7 : 136 * (j : Int) ≤ 136 * (j : Int) + 136 := by omega
          have hcv := convB (some ⟨g, 136 * j, none⟩) 136 (cap - 136 * j) (blk (pd z n) j) wr (fun i hi => ⟨g, 136 * j, rfl, HB.out.lt, HB.out.at_ (136 * j + i) (by omega)⟩)
          go_wp2_with fail
          refine (sLanes_any (bt (blk (pd z n) j) 136) _ (by rw [bt_size]; omega)).mono ?_
          rintro e W4 ⟨he, k4⟩
          have he' : e = .returned (.agg (la (ln (blk (pd z n) j) 136))) := by
            rw [he, bt_size]
            exact ret_of (congrArg Value.agg (rowA_congr (fun i _ => by
              unfold lv
              rw [ln_congr (fun k hk => bt_zs (blk (pd z n) j) 136 k hk (HP.out _).1 (HP.out _).2) i])))
          subst he'
          clear he
          have hs4 := k4.size
          have B4 := hik (HB.out.keep k4)
          have A4 := hik (rowIs_keep HA.out k4)
          have G4 := hik (HG.out.trans k4)
          have hla := HA.out.lt
          have hlb := HB.out.lt
          clear k4 hcv HB HA HG q1 q2 q3 q4 q5 q6 q7
          obtain ⟨X, hX⟩ : ∃ X, X = ln (blk (pd z n) j) 136 := ⟨_, rfl⟩
          rw [← hX]
          have HX := hik hX
          clear hX
          go_wp2_with ((with_reducible refine wpList_store_all 154 (.tmp 6) (.tmp 40) rfl rfl W4.heap.size 25 (lv X) ?hx ?hy 154 lz ?hr HIA.out (fun i _ => lv_one _ i) ?_); (case hx => rfl); (case hy => rfl); (case hr => exact rowIs_at _ _ rfl 25 lz _ _ rfl); intro W5 hr5 hg5; have X5 := hik hr5; have B5 := hik ((B4.out.keep ((Chg.refl nob _).alloc _)).chg hg5 (by omega)); have A5 := hik (rowIs_chg (A4.out.alloc _) hg5 (by omega)); have G5 := hik (Chg.near (G4.out.alloc _) hg5 (fun i e => by have := G4.out.size; omega)); clear hr5 hg5)
          clear B4 A4 G4
          obtain ⟨S, hS⟩ : ∃ S, S = hst (pd z n) j := ⟨_, rfl⟩
          rw [← hS] at A5
          have HS := hik hS
          clear hS
          go_loopw [7] (fun i W => ∃ k : Nat, k ≤ 25 ∧ i = .int .i64 k ∧ Hid (BRow W w.heap.size g m cap (pd z n)) ∧ Hid (W.rowIs wa.heap.size 154 25 (xX S X k)) ∧ Hid (W.rowIs W4.heap.size 154 25 (lv X)) ∧ Hid (Chg nob w W)) (fun i _ => 25 - (intOf i).toNat)
          case atStart => exact ⟨0, by omega, rfl, B5, hik (A5.out.congr (fun i _ => by unfold xX; rw [if_neg (by omega)]; rfl)), X5, G5⟩
          case round =>
            clear B5 A5 X5 G5
            obtain ⟨k, hk, rfl, HB, HA, HXX, HG⟩ := hrel
            by_cases hkt : k < 25
            · have hkt' : (k : Int) < 25 := by omega
              have c0 : wr.cell? ⟨wa.heap.size, k, none⟩ = some (.int .u64 ((S k).toNat : Int)) := (HA.out.cell hkt).trans (by unfold xX; rw [if_neg (by omega)]; rfl)
              have f0 := HA.out.frozen k
              have c1 : wr.cell? ⟨W4.heap.size, k, none⟩ = some (.int .u64 ((X k).toNat : Int)) := HXX.out.cell hkt
              have A2 := hik ((HA.out.set k (.int .u64 (bits .xor .u64 ((S k).toNat : Int) ((X k).toNat : Int)))).congr (g := xX S X (k + 1)) (fun i _ => xX_set S X k i))
              have X2 := hik (HXX.out.setOther (a := ⟨wa.heap.size, k, none⟩) (by simp only [ne_eq]; omega) (.int .u64 (bits .xor .u64 ((S k).toNat : Int) ((X k).toNat : Int))))
              have hk2 : Chg (fun b => b = wa.heap.size) wr (wr.setCell ⟨wa.heap.size, k, none⟩ (.int .u64 (bits .xor .u64 ((S k).toNat : Int) ((X k).toNat : Int)))).drew := ((Chg.refl (fun b => b = wa.heap.size) wr).setCell (p := ⟨wa.heap.size, k, none⟩) (fun _ => rfl) _).drew1
              have B2 := hik (HB.out.chg hk2 (by omega))
              have G2 := hik (HG.out.near hk2 (fun i e => by omega))
              clear hk2
              go_wp2
              go_region
              all_goals
                go_wp2
                go_roundw
                case rel => exact ⟨k + 1, by omega, by go_num, B2, A2, X2, G2⟩
                case measure => simp [intOf]; omega
            · obtain rfl : k = 25 := by omega
              have A1 := hik (HA.out.congr (g := lv (fun l => S l ^^^ X l)) (fun i hi => by unfold xX lv; rw [if_pos hi]))
              clear HA HXX
              go_wp2_with (first | ((with_reducible refine wpList_load_all 154 (.tmp 4) rfl rfl wa.heap.size ?hx 25 141 (lv (fun l => S l ^^^ X l)) 154 A1.out Tryz.underlying154 HIA.out ?_); (case hx => rfl)) | (go_at_call 117; refine (sPermute_any (fun l => S l ^^^ X l) _).mono ?_; rintro e W7 ⟨rfl, k7⟩; have G7 := hik (HG.out.trans k7); have A7 := hik (rowIs_keep A1.out k7); have B7 := hik (HB.out.keep k7); clear k7) | ((with_reducible refine wpList_store_all 154 (.tmp 4) (.tmp 54) rfl rfl wa.heap.size 25 (lv (prm (fun l => S l ^^^ X l) 24)) ?hx ?hy 154 (lv (fun l => S l ^^^ X l)) A7.out HIA.out (fun i _ => lv_one _ i) ?_); (case hx => rfl); (case hy => rfl); intro W8 hr8 hg8; have A8 := hik (show W8.rowIs wa.heap.size 154 25 (lv (hst (pd z n) (j + 1))) from by have q := hr8; rw [HS.out, HX.out] at q; exact q); have B8 := hik (B7.out.chg hg8 (by omega)); have G8 := hik (G7.out.near hg8 (fun i e => by omega)); clear hr8 hg8))
              go_roundw
              case rel => exact ⟨j + 1, by omega, by go_num, B8, A8, G8⟩
              case measure => simp [intOf]; omega
        · obtain rfl : j = n / 136 + 1 := by omega
          have q1 : ¬ 136 * ((n / 136 + 1 : Nat) : Int) < (m : Int) := by have := HN.out; unfold pn at this; omega
          go_wp2_with (first | ((with_reducible refine wpList_load_all 154 (.tmp 4) rfl rfl wa.heap.size ?hx 25 141 (lv (hst (pd z n) (n / 136 + 1))) 154 HA.out Tryz.underlying154 HIA.out ?_); (case hx => rfl)) | (go_at_call 118; refine (sText_any (hst (pd z n) (n / 136 + 1)) 32 _ (by omega) (by omega)).mono ?_; rintro e W7 ⟨rfl, k7⟩; have G7 := hik (HG.out.trans k7); clear k7))
          go_ret
          exact ⟨rfl, G7.out⟩


end Go.Proofs.YtkpohajmcngjcaaGreatDoor
