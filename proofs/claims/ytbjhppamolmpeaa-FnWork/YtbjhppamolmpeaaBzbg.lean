/- Several texts in one: Entries told by lists: plain. · Entries in memory, told by lists; lists that grow by append: words and laws. No condition but those that each theorem states. -/
import Derived.Test.YtbjhppamolmpeaaBzak
import Derived.Test.YtbjhppamolmpeaaBzam
import Derived.Laws.AppendOwn
namespace Go.Proofs.Ytbjhppamolmpeaa
set_option linter.unusedVariables false

/-- A list as what is read place by place. -/
def lfn (l : List En) (i : Nat) : En := l.getD i (0, 0, 0)

end Go.Proofs.Ytbjhppamolmpeaa

namespace Go.Proofs.Ytbjhppamolmpeaa
open Go.ChangeShapes Go.WideShapes Go.ChangeAt Go.RowKit
set_option linter.unusedVariables false
set_option maxRecDepth 100000
set_option linter.unusedSimpArgs false

/-- A list's cells. -/
def efl (l : List En) : List Value := l.flatMap ecE
theorem efl_len : ∀ (l : List En), (efl l).length = l.length * 3
  | [] => rfl
  | x :: l => by
    have := efl_len l
    unfold efl at this ⊢
    rw [List.flatMap_cons, List.length_append, this]
    show 3 + _ = _
    simp
    omega
theorem efl_app (a b : List En) : efl (a ++ b) = efl a ++ efl b := by unfold efl; rw [List.flatMap_append]
theorem efl_one (l : List En) : ∀ u ∈ efl l, u.oneCell' = true := by
  intro u hu
  obtain ⟨x, _, hx⟩ := List.mem_flatMap.1 hu
  exact ecE_one x u hx
theorem efl_get : ∀ (l : List En) (i : Nat), i < l.length → (efl l)[i * 3]? = some (.int .i64 (lfn l i).1) ∧ (efl l)[i * 3 + 1]? = some (.int .i64 (lfn l i).2.1) ∧ (efl l)[i * 3 + 2]? = some (.int .i64 (lfn l i).2.2)
  | [], i, h => by simp at h
  | x :: l, 0, _ => ⟨rfl, rfl, rfl⟩
  | x :: l, i + 1, h => by
    have ih := efl_get l i (by simpa using h)
    have e : ∀ j, (efl (x :: l))[j + 3]? = (efl l)[j]? := fun j => rfl
    rw [show (i + 1) * 3 = i * 3 + 3 by omega, show i * 3 + 3 + 1 = i * 3 + 1 + 3 by omega, show i * 3 + 3 + 2 = i * 3 + 2 + 3 by omega, e, e, e]
    exact ih
/-- A list of entries in block g. -/
def EnL (W : World) (g : Nat) (l : List En) : Prop := g < W.heap.size ∧ ∀ j u, (efl l)[j]? = some u → W.cell? ⟨g, j, none⟩ = some u
theorem EnL.chg {P : Nat → Prop} {W W' : World} {g : Nat} {l : List En} (h : EnL W g l) (k : Chg P W W') (hp : ¬ P g) : EnL W' g l :=
  ⟨Nat.lt_of_lt_of_le h.1 k.size, fun j u hj => by rw [k.cell (p := ⟨g, j, none⟩) h.1 hp]; exact h.2 j u hj⟩
theorem EnL.keep {W W' : World} {g : Nat} {l : List En} (h : EnL W g l) (k : Chg nob W W') : EnL W' g l := h.chg k (fun x => x)
theorem EnL.ent {W : World} {g : Nat} {l : List En} (h : EnL W g l) : EntV W (some ⟨g, 0, none⟩) l.length (lfn l) := by
  intro i hi
  obtain ⟨a, b, c⟩ := efl_get l i hi
  refine ⟨g, 0, rfl, h.1, ?_, ?_, ?_⟩
  · rw [Nat.zero_add]; exact h.2 _ _ a
  · rw [Nat.zero_add]; exact h.2 _ _ b
  · rw [Nat.zero_add]; exact h.2 _ _ c
theorem EnL.take {W : World} {g : Nat} {l : List En} (h : EnL W g l) (k : Nat) : ∀ j u, (efl (l.take k))[j]? = some u → W.cell? ((⟨g, 0, none⟩ : Addr).add j) = some u := by
  intro j u hj
  rw [Go.WideShapes.add_plain, Nat.zero_add]
  refine h.2 j u ?_
  have e : efl l = efl (l.take k) ++ efl (l.drop k) := by rw [← efl_app, List.take_append_drop]
  rw [e, List.getElem?_append_left]
  · exact hj
  · exact (List.getElem?_eq_some_iff.1 hj).1
theorem EnL.drop {W : World} {g : Nat} {l : List En} (h : EnL W g l) {k : Nat} (hk : k ≤ l.length) : ∀ j u, (efl (l.drop k))[j]? = some u → W.cell? ((⟨g, k * 3, none⟩ : Addr).add j) = some u := by
  intro j u hj
  rw [Go.WideShapes.add_plain]
  refine h.2 _ u ?_
  have e : efl l = efl (l.take k) ++ efl (l.drop k) := by rw [← efl_app, List.take_append_drop]
  have hl : (efl (l.take k)).length = k * 3 := by rw [efl_len, List.length_take, Nat.min_eq_left hk]
  rw [e, List.getElem?_append_right (by omega), hl, Nat.add_sub_cancel_left]
  exact hj
/-- A list that a call made, and that may grow. -/
def EGr (W : World) (B : Nat) (v : Value) (l : List En) : Prop := W.ownsRow B 69 3 v l.length (efl l) ∧ v ≠ .slice none 0 0
theorem EGr.keep {W W' : World} {B : Nat} {v : Value} {l : List En} (h : EGr W B v l) (c : Chg nob W W') : EGr W' B v l := by
  refine ⟨?_, h.2⟩
  obtain ⟨h1, h2⟩ := h.1
  refine ⟨h1, ?_⟩
  rcases h2 with q | ⟨g, cap, cur, e, hb, hcur, r⟩
  · exact .inl q
  · exact .inr ⟨g, cap, cur, e, hb, (c.block g (Array.getElem?_eq_some_iff.1 hcur).1 (fun x => x)).trans hcur, r⟩
theorem EGr.chg9 {P : Nat → Prop} {W W' : World} {B : Nat} {v : Value} {l : List En} (h : EGr W B v l) (c : Chg P W W') (hp : ∀ i, B ≤ i → ¬ P i) : EGr W' B v l := by
  refine ⟨?_, h.2⟩
  obtain ⟨h1, h2⟩ := h.1
  refine ⟨h1, ?_⟩
  rcases h2 with q | ⟨g, cap, cur, e, hb, hcur, r⟩
  · exact .inl q
  · exact .inr ⟨g, cap, cur, e, hb, (c.block g (Array.getElem?_eq_some_iff.1 hcur).1 (hp g hb)).trans hcur, r⟩
theorem EGr.fresh (W : World) (B : Nat) (hB : B ≤ W.heap.size) : EGr (W.alloc (.cells #[] 69)) B (.slice (some ⟨W.heap.size, 0, none⟩) 0 0) [] :=
  ⟨⟨by simp [efl], .inr ⟨W.heap.size, 0, #[], rfl, hB, Array.getElem?_push_size, Nat.le_refl _, Nat.zero_le _, by simp, by simp [efl]⟩⟩, by simp⟩
theorem EGr.shape {W : World} {B : Nat} {v : Value} {l : List En} (h : EGr W B v l) : ∃ g cap, v = .slice (some ⟨g, 0, none⟩) l.length cap ∧ l.length ≤ cap ∧ cap ≤ maxLen ∧ B ≤ g ∧ EnL W g l := by
  have hc := h.1
  rcases h.1.2 with ⟨e, _⟩ | ⟨g, cap, cur, rfl, hb, hcur, h1, h2, _⟩
  · exact absurd e h.2
  · refine ⟨g, cap, rfl, h1, h2, hb, (Array.getElem?_eq_some_iff.1 hcur).1, fun j u hj => ?_⟩
    have := hc.cells rfl j u hj
    rw [Go.WideShapes.add_plain, Nat.zero_add] at this
    exact this
theorem EGr.len {W : World} {B : Nat} {v : Value} {l : List En} (h : EGr W B v l) {b : Nat} (e : v.ownBlock = some b) : B ≤ b := (h.1.lt b e).1
section
variable {w : World} {ops : Array Oper} {rest : List Oper} {o : Oper} {a : Act} {Q : Exit → Act → World → Prop}
/-- append(x, y...) of entries. -/
theorem wpList_appE (hgd : o.guard = none) (x y : Operand) (hop : o.op = .call { callee := .builtin .append, args := #[x, y], argTypes := #[44, 44] }) (B : Nat) (v : Value) (l : List En) (hx : a.eval x = v) (hown : EGr w B v l)
    (ad : Addr) (m c : Nat) (l' : List En) (hy : a.eval y = .slice (some ad) m c) (hm : m = l'.length) (hc : ∀ j u, (efl l')[j]? = some u → w.cell? (ad.add j) = some u) (hn : l.length + m ≤ 100000) (hB : B ≤ w.heap.size)
    (h : ∀ v' w', EGr w' B v' (l ++ l') → Chg (fun i => B ≤ i) w w' → wpList Try.prog ops Q rest (a.put o.dst v') w') : wpList Try.prog ops Q (o :: rest) a w := by
  obtain ⟨i0, hi, hz0, hz1, hz2⟩ := info_parts infoEn
  subst hm
  refine wpList_append_own w hgd x y 44 hop B 69 i0 (.agg #[.int .i64 0, .int .i64 0, .int .i64 0]) 3 24 Try.underlying44 hi hz0 hz1 hz2 rfl (by decide) v l.length (efl l) hx hown.1 ad l'.length c (efl l') hy (efl_len l') hc (efl_one l') (by unfold maxLen; omega) (by omega) hB ?_
  intro v' w' ho hg hnil
  refine h v' w' ⟨by rw [List.length_append, efl_app]; exact ho, fun e => hown.2 (hnil.1 e).1⟩ ((Chg.refl _ w).grown hg (fun b e _ => hown.len e))
end

end Go.Proofs.Ytbjhppamolmpeaa
