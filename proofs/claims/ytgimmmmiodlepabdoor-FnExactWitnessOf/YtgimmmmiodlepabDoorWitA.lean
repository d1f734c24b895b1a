/- Two rows of ints that grow beside one another; what WitnessOf answers: words. -/
import Derived.Test.YtgimmmmiodlepabDoorRnAn
import Derived.Test.YtgimmmmiodlepabDoorWitM
import Derived.Deep.AppendLies
namespace Go.Proofs.YtgimmmmiodlepabDoor
open Go.ChangeShapes Go.WideShapes Go.ChangeAt Go.RowKit
set_option linter.unusedVariables false
set_option maxRecDepth 100000
set_option linter.unusedSimpArgs false

theorem IGr.blk {W : World} {B : Nat} {v : Value} {k : Nat} {f : Nat → Int} (h : IGr W B v k f) {b : Nat} (e : v.ownBlock = some b) : B ≤ b ∧ b < W.heap.size := by
  obtain ⟨_, ⟨rfl, rfl⟩ | ⟨g, cap, cur, rfl, hb, hg, r⟩⟩ := h
  · simp [Value.ownBlock] at e
  · simp [Value.ownBlock] at e
    subst e
    exact ⟨hb, (Array.getElem?_eq_some_iff.1 hg).1⟩
theorem IGr.far {P : Nat → Prop} {W W' : World} {B : Nat} {v : Value} {k : Nat} {f : Nat → Int} (h : IGr W B v k f) (c : Chg P W W') (hp : ∀ x, v.ownBlock = some x → ¬ P x) : IGr W' B v k f := by
  obtain ⟨hl, h0 | ⟨g, cap, cur, e, hb, hg, r⟩⟩ := h
  · exact ⟨hl, .inl h0⟩
  · have hlt : g < W.heap.size := (Array.getElem?_eq_some_iff.1 hg).1
    exact ⟨hl, .inr ⟨g, cap, cur, e, hb, (c.block g hlt (hp g (by rw [e]; rfl))).trans hg, r⟩⟩
/-- Two slices in other blocks. -/
def Aprt (u v : Value) : Prop := ∀ x, u.ownBlock = some x → v.ownBlock = some x → False
section
variable {ops : Array Oper} {rest : List Oper} {o : Oper} {a : Act} {w : World} {Q : Exit → Act → World → Prop}
/-- append(x, z), and where it lies. -/
theorem wpList_app2 (hgd : o.guard = none) (x y : Operand) (hop : o.op = .call { callee := .builtin .append, args := #[x, y], argTypes := #[40, 40] }) (B k g : Nat) (v : Value) (f : Nat → Int) (z : Int)
    (hx : a.eval x = v) (hy : a.eval y = .slice (some ⟨g, 0, none⟩) 1 1) (hr : IGr w B v k f) (hc : w.cell? ⟨g, 0, none⟩ = some (.int .i64 z)) (hk : k ≤ 1000000) (hB : B ≤ w.heap.size)
    (h : ∀ v' w', IGr w' B v' (k + 1) (fun i => if i = k then z else f i) → Chg (fun x => v.ownBlock = some x) w w' → (∀ x, v'.ownBlock = some x → v.ownBlock = some x ∨ x = w.heap.size) → wpList Tryd.prog ops Q rest (a.put o.dst v') w') : wpList Tryd.prog ops Q (o :: rest) a w := by
  obtain ⟨i0, hi, hz0, hz1, hz2⟩ := info_parts infoInt
  refine wpList_append_lies w hgd x y 40 hop B 3 i0 (.int .i64 0) 1 8 Tryd.underlying40 hi hz0 hz1 hz2 rfl (by decide) v k ((List.range k).map (iv f)) hx hr ⟨g, 0, none⟩ 1 1 [.int .i64 z] hy rfl ?_ ?_ (by omega) (by unfold maxLen; omega) (by omega) hB _ rfl ?_
  · intro j u hj
    match j, hj with
    | 0, hj => simp at hj; subst hj; simpa [Addr.add] using hc
    | j + 1, hj => simp at hj
  · intro u hu
    simp at hu
    subst hu
    rfl
  · intro g' cap w' hown hgr hat hlt
    refine h _ w' (by unfold IGr; rw [← ints_one]; exact hown) ((Chg.refl _ w).grown hgr (fun b e _ => e)) (fun x e => ?_)
    simp [Value.ownBlock] at e
    subst e
    exact hat
end
/-- What is public, what is not, a code. -/
def WtAns (w : World) (code : Int) (N1 : Nat) (f1 : Nat → Int) (N2 : Nat) (f2 : Nat → Int) (e : Ending) (w' : World) : Prop :=
  ∃ c1 p1 c2 p2, e = .returned (.tuple #[.slice c1 (if code = 0 then N1 else 0) p1, .slice c2 (if code = 0 then N2 else 0) p2, .int .i64 code]) ∧ OwnJ w' w.heap.size c1 (if code = 0 then N1 else 0) f1 ∧ OwnJ w' w.heap.size c2 (if code = 0 then N2 else 0) f2 ∧ (∀ b o o', c1 = some ⟨b, o, none⟩ → c2 = some ⟨b, o', none⟩ → (if code = 0 then N1 else 0) = 0 ∨ (if code = 0 then N2 else 0) = 0) ∧ Chg nob w w'
theorem WtAns.no {w w' : World} {code k : Int} {N1 N2 : Nat} {f1 f2 : Nat → Int} {e : Ending} {c1 c2 : Option Addr} {p1 p2 : Nat} (h : code = k) (hk : k ≠ 0) (he : e = .returned (.tuple #[.slice c1 0 p1, .slice c2 0 p2, .int .i64 k])) (kk : Chg nob w w') : WtAns w code N1 f1 N2 f2 e w' :=
  ⟨c1, p1, c2, p2, by rw [h, if_neg hk, if_neg hk]; exact he, by rw [h, if_neg hk]; exact .inl rfl, by rw [h, if_neg hk]; exact .inl rfl, fun _ _ _ _ _ => .inl (by rw [h, if_neg hk]), kk⟩
theorem WtAns.yes {w w' : World} {code : Int} {N1 N2 : Nat} {f1 f2 : Nat → Int} {e : Ending} {c1 c2 : Option Addr} {p1 p2 : Nat} (h : code = 0) (he : e = .returned (.tuple #[.slice c1 N1 p1, .slice c2 N2 p2, .int .i64 0])) (h1 : OwnJ w' w.heap.size c1 N1 f1) (h2 : OwnJ w' w.heap.size c2 N2 f2) (ap : ∀ b o o', c1 = some ⟨b, o, none⟩ → c2 = some ⟨b, o', none⟩ → N1 = 0 ∨ N2 = 0) (kk : Chg nob w w') : WtAns w code N1 f1 N2 f2 e w' :=
  ⟨c1, p1, c2, p2, by rw [if_pos h, if_pos h, h]; exact he, by rw [if_pos h]; exact h1, by rw [if_pos h]; exact h2, by rw [if_pos h, if_pos h]; exact ap, kk⟩
/-- A row that grew, as a slice of the call's own. -/
theorem IGr.out9 {W : World} {B : Nat} {v : Value} {k : Nat} {f : Nat → Int} (h : IGr W B v k f) : ∃ c cap, v = .slice c k cap ∧ OwnJ W B c k f ∧ ∀ b o, c = some ⟨b, o, none⟩ → 0 < k → v.ownBlock = some b := by
  have h' := h
  obtain ⟨hl, ⟨rfl, rfl⟩ | ⟨g, cap, cur, rfl, hb, hg, r⟩⟩ := h
  · exact ⟨none, 0, rfl, .inl rfl, fun b o e _ => by cases e⟩
  · exact ⟨_, cap, rfl, h'.own, fun b o e _ => by cases e; rfl⟩
end Go.Proofs.YtgimmmmiodlepabDoor
