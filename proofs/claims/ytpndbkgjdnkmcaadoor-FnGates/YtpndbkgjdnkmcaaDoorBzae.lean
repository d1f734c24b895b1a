/- Several texts in one: The laws' helpers on gates and circuits: copies, sizes, likenesses, marks: contracts. Conditions: rows that can be read, lengths of at most 2 to the 40. · Gates in memory, told by lists; lists of gates that grow by append: words and laws. No condition but those that each theorem states. -/
import Derived.Test.YtpndbkgjdnkmcaaDoorBzaa
import Derived.Test.YtpndbkgjdnkmcaaDoorBzac
import Derived.Test.YtpndbkgjdnkmcaaDoorBzad
import Derived.WalkKit
import Derived.Deep.RegionHeld3
import Derived.Deep.DeepCutAuto
import Derived.Test.YtpndbkgjdnkmcaaDoorBzaq
import Derived.Test.YtpndbkgjdnkmcaaDoorBzag
import Derived.Laws.AppendOwn
namespace Go.Proofs.YtpndbkgjdnkmcaaDoor
open Go.ChangeShapes Go.WideShapes Go.ChangeAt Go.RowKit
set_option linter.unusedVariables false
set_option maxRecDepth 100000
set_option linter.unusedSimpArgs false

theorem infoGt4 : (Tryd.prog.info? 23).map (fun i => (i.zero, i.size, i.bytes)) = some (some (.agg #[.int .i64 0, .int .i64 0, .int .i64 0, .int .i64 0]), 4, 32) := by kernel_rfl


end Go.Proofs.YtpndbkgjdnkmcaaDoor

namespace Go.Proofs.YtpndbkgjdnkmcaaDoor
open Go.ChangeShapes Go.WideShapes Go.ChangeAt Go.RowKit
set_option linter.unusedVariables false
set_option maxRecDepth 100000
set_option linter.unusedSimpArgs false

def gcl (g : Gt) : List Value := [.int .i64 g.1, .int .i64 g.2.1, .int .i64 g.2.2.1, .int .i64 g.2.2.2]
theorem gcl_one (x : Gt) : ∀ u ∈ gcl x, u.oneCell' = true := by
  intro u hu
  simp [gcl] at hu
  rcases hu with rfl | rfl | rfl | rfl <;> rfl
/-- A list as what is read place by place. -/
def gln (l : List Gt) (i : Nat) : Gt := l.getD i (0, 0, 0, 0)
/-- A list's cells. -/
def gfl (l : List Gt) : List Value := l.flatMap gcl
theorem gfl_len : ∀ (l : List Gt), (gfl l).length = l.length * 4
  | [] => rfl
  | x :: l => by
    have := gfl_len l
    unfold gfl at this ⊢
    rw [List.flatMap_cons, List.length_append, this]
    show 4 + _ = _
    simp
    omega
theorem gfl_app (a b : List Gt) : gfl (a ++ b) = gfl a ++ gfl b := by unfold gfl; rw [List.flatMap_append]
theorem gfl_one (l : List Gt) : ∀ u ∈ gfl l, u.oneCell' = true := by
  intro u hu
  obtain ⟨x, _, hx⟩ := List.mem_flatMap.1 hu
  exact gcl_one x u hx
theorem gfl_get : ∀ (l : List Gt) (i : Nat), i < l.length → (gfl l)[i * 4]? = some (.int .i64 (gln l i).1) ∧ (gfl l)[i * 4 + 1]? = some (.int .i64 (gln l i).2.1) ∧ (gfl l)[i * 4 + 2]? = some (.int .i64 (gln l i).2.2.1) ∧ (gfl l)[i * 4 + 3]? = some (.int .i64 (gln l i).2.2.2)
  | [], i, h => by simp at h
  | x :: l, 0, _ => ⟨rfl, rfl, rfl, rfl⟩
  | x :: l, i + 1, h => by
    have ih := gfl_get l i (by simpa using h)
    have e : ∀ j, (gfl (x :: l))[j + 4]? = (gfl l)[j]? := fun j => rfl
    rw [show (i + 1) * 4 = i * 4 + 4 by omega, show i * 4 + 4 + 1 = i * 4 + 1 + 4 by omega, show i * 4 + 4 + 2 = i * 4 + 2 + 4 by omega, show i * 4 + 4 + 3 = i * 4 + 3 + 4 by omega, e, e, e, e]
    exact ih
/-- A list of gates in block g. -/
def GtL (W : World) (g : Nat) (l : List Gt) : Prop := g < W.heap.size ∧ ∀ j u, (gfl l)[j]? = some u → W.cell? ⟨g, j, none⟩ = some u
theorem GtL.chg {P : Nat → Prop} {W W' : World} {g : Nat} {l : List Gt} (h : GtL W g l) (k : Chg P W W') (hp : ¬ P g) : GtL W' g l :=
  ⟨Nat.lt_of_lt_of_le h.1 k.size, fun j u hj => by rw [k.cell (p := ⟨g, j, none⟩) h.1 hp]; exact h.2 j u hj⟩
theorem GtL.keep {W W' : World} {g : Nat} {l : List Gt} (h : GtL W g l) (k : Chg nob W W') : GtL W' g l := h.chg k (fun x => x)
theorem GtL.gat {W : World} {g : Nat} {l : List Gt} (h : GtL W g l) : GatV W (some ⟨g, 0, none⟩) l.length (gln l) := by
  intro i hi
  obtain ⟨a, b, c, d⟩ := gfl_get l i hi
  refine ⟨g, 0, rfl, h.1, ?_, ?_, ?_, ?_⟩
  · rw [Nat.zero_add]; exact h.2 _ _ a
  · rw [Nat.zero_add]; exact h.2 _ _ b
  · rw [Nat.zero_add]; exact h.2 _ _ c
  · rw [Nat.zero_add]; exact h.2 _ _ d
theorem GtL.take {W : World} {g : Nat} {l : List Gt} (h : GtL W g l) (k : Nat) : ∀ j u, (gfl (l.take k))[j]? = some u → W.cell? ((⟨g, 0, none⟩ : Addr).add j) = some u := by
  intro j u hj
  rw [Go.WideShapes.add_plain, Nat.zero_add]
  refine h.2 j u ?_
  have e : gfl l = gfl (l.take k) ++ gfl (l.drop k) := by rw [← gfl_app, List.take_append_drop]
  rw [e, List.getElem?_append_left]
  · exact hj
  · exact (List.getElem?_eq_some_iff.1 hj).1
theorem GtL.drop {W : World} {g : Nat} {l : List Gt} (h : GtL W g l) {k : Nat} (hk : k ≤ l.length) : ∀ j u, (gfl (l.drop k))[j]? = some u → W.cell? ((⟨g, k * 4, none⟩ : Addr).add j) = some u := by
  intro j u hj
  rw [Go.WideShapes.add_plain]
  refine h.2 _ u ?_
  have e : gfl l = gfl (l.take k) ++ gfl (l.drop k) := by rw [← gfl_app, List.take_append_drop]
  have hl : (gfl (l.take k)).length = k * 4 := by rw [gfl_len, List.length_take, Nat.min_eq_left hk]
  rw [e, List.getElem?_append_right (by omega), hl, Nat.add_sub_cancel_left]
  exact hj
/-- A list that a call made, and that may grow. -/
def GGr (W : World) (B : Nat) (v : Value) (l : List Gt) : Prop := W.ownsRow B 23 4 v l.length (gfl l) ∧ v ≠ .slice none 0 0
theorem GGr.keep {W W' : World} {B : Nat} {v : Value} {l : List Gt} (h : GGr W B v l) (c : Chg nob W W') : GGr W' B v l := by
  refine ⟨?_, h.2⟩
  obtain ⟨h1, h2⟩ := h.1
  refine ⟨h1, ?_⟩
  rcases h2 with q | ⟨g, cap, cur, e, hb, hcur, r⟩
  · exact .inl q
  · exact .inr ⟨g, cap, cur, e, hb, (c.block g (Array.getElem?_eq_some_iff.1 hcur).1 (fun x => x)).trans hcur, r⟩
theorem GGr.chg9 {P : Nat → Prop} {W W' : World} {B : Nat} {v : Value} {l : List Gt} (h : GGr W B v l) (c : Chg P W W') (hp : ∀ i, B ≤ i → ¬ P i) : GGr W' B v l := by
  refine ⟨?_, h.2⟩
  obtain ⟨h1, h2⟩ := h.1
  refine ⟨h1, ?_⟩
  rcases h2 with q | ⟨g, cap, cur, e, hb, hcur, r⟩
  · exact .inl q
  · exact .inr ⟨g, cap, cur, e, hb, (c.block g (Array.getElem?_eq_some_iff.1 hcur).1 (hp g hb)).trans hcur, r⟩
theorem GGr.fresh (W : World) (B : Nat) (hB : B ≤ W.heap.size) : GGr (W.alloc (.cells #[] 23)) B (.slice (some ⟨W.heap.size, 0, none⟩) 0 0) [] :=
  ⟨⟨by simp [gfl], .inr ⟨W.heap.size, 0, #[], rfl, hB, Array.getElem?_push_size, Nat.le_refl _, Nat.zero_le _, by simp, by simp [gfl]⟩⟩, by simp⟩
theorem GGr.shape {W : World} {B : Nat} {v : Value} {l : List Gt} (h : GGr W B v l) : ∃ g cap, v = .slice (some ⟨g, 0, none⟩) l.length cap ∧ l.length ≤ cap ∧ cap ≤ maxLen ∧ B ≤ g ∧ GtL W g l := by
  have hc := h.1
  rcases h.1.2 with ⟨e, _⟩ | ⟨g, cap, cur, rfl, hb, hcur, h1, h2, _⟩
  · exact absurd e h.2
  · refine ⟨g, cap, rfl, h1, h2, hb, (Array.getElem?_eq_some_iff.1 hcur).1, fun j u hj => ?_⟩
    have := hc.cells rfl j u hj
    rw [Go.WideShapes.add_plain, Nat.zero_add] at this
    exact this
theorem GGr.len {W : World} {B : Nat} {v : Value} {l : List Gt} (h : GGr W B v l) {b : Nat} (e : v.ownBlock = some b) : B ≤ b := (h.1.lt b e).1
/-- A row of gates is no box of another kind. -/
theorem GGr.off {W : World} {B : Nat} {v : Value} {l : List Gt} (h : GGr W B v l) {g : Nat} {t' : TypeId} {N : Nat} {f : Nat → Value} (r : W.rowIs g t' N f) (ht : 23 ≠ t') : v.ownBlock ≠ some g := by
  intro e
  rcases h.1.2 with ⟨rfl, _⟩ | ⟨g', cap, cur, rfl, _, hc, _⟩
  · cases e
  · cases e
    obtain ⟨c, hb, _⟩ := r
    have q := hc.symm.trans hb
    cases q
    exact ht rfl
theorem GGr.at0 {W : World} {B : Nat} {v : Value} {l : List Gt} (h : GGr W B v l) : ∀ b, v.ownBlock = some b → B ≤ b := fun b e => h.len e
theorem GGr.chgx {P : Nat → Prop} {W W' : World} {B : Nat} {v : Value} {l : List Gt} (h : GGr W B v l) (c : Chg P W W') (hp : ∀ i, v.ownBlock = some i → ¬ P i) : GGr W' B v l := by
  refine ⟨?_, h.2⟩
  obtain ⟨h1, h2⟩ := h.1
  refine ⟨h1, ?_⟩
  rcases h2 with q | ⟨g, cap, cur, e, hb, hcur, r⟩
  · exact .inl q
  · exact .inr ⟨g, cap, cur, e, hb, (c.block g (Array.getElem?_eq_some_iff.1 hcur).1 (hp g (by rw [e]; rfl))).trans hcur, r⟩
section
variable {w : World} {ops : Array Oper} {rest : List Oper} {o : Oper} {a : Act} {Q : Exit → Act → World → Prop}
/-- append(x, y...) of gates. -/
theorem wpList_appG (hgd : o.guard = none) (x y : Operand) (hop : o.op = .call { callee := .builtin .append, args := #[x, y], argTypes := #[29, 29] }) (B : Nat) (v : Value) (l : List Gt) (hx : a.eval x = v) (hown : GGr w B v l)
    (ad : Addr) (m c : Nat) (l' : List Gt) (hy : a.eval y = .slice (some ad) m c) (hm : m = l'.length) (hc : ∀ j u, (gfl l')[j]? = some u → w.cell? (ad.add j) = some u) (hn : l.length + m ≤ 100000) (hB : B ≤ w.heap.size)
    (h : ∀ v' w', GGr w' B v' (l ++ l') → Chg (fun i => v.ownBlock = some i) w w' → wpList Tryd.prog ops Q rest (a.put o.dst v') w') : wpList Tryd.prog ops Q (o :: rest) a w := by
  obtain ⟨i0, hi, hz0, hz1, hz2⟩ := info_parts infoGt4
  subst hm
  refine wpList_append_own w hgd x y 29 hop B 23 i0 (.agg #[.int .i64 0, .int .i64 0, .int .i64 0, .int .i64 0]) 4 32 Tryd.underlying29 hi hz0 hz1 hz2 rfl (by decide) v l.length (gfl l) hx hown.1 ad l'.length c (gfl l') hy (gfl_len l') hc (gfl_one l') (by unfold maxLen; omega) (by omega) hB ?_
  intro v' w' ho hg hnil
  refine h v' w' ⟨by rw [List.length_append, gfl_app]; exact ho, fun e => hown.2 (hnil.1 e).1⟩ ((Chg.refl _ w).grown hg (fun b e _ => e))
end

end Go.Proofs.YtpndbkgjdnkmcaaDoor
