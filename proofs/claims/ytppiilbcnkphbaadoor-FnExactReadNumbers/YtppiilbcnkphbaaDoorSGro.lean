/- Rows of texts that grow: words. No condition but those that each theorem states. -/
import Derived.Test.YtppiilbcnkphbaaDoorIGro
namespace Go.Proofs.YtppiilbcnkphbaaDoor
open Go.ChangeShapes Go.WideShapes Go.ChangeAt Go.RowKit
set_option linter.unusedVariables false
set_option linter.unusedSimpArgs false

theorem infoStr : (Tryd.prog.info? 9).map (fun i => (i.zero, i.size, i.bytes)) = some (some (.string ByteArray.empty), 1, 16) := by kernel_rfl
/-- A text as a value. -/
def tv (l : List UInt8) : Value := .string ⟨l.toArray⟩
def tvs (ws : List (List UInt8)) (i : Nat) : Value := tv (ws.getD i [])
theorem tvs_map (ws : List (List UInt8)) : ws.map tv = (List.range ws.length).map (tvs ws) := by
  apply List.ext_getElem
  · simp
  · intro i h1 h2
    simp at h1
    simp [tvs, List.getD_eq_getElem?_getD, List.getElem?_eq_getElem h1]
/-- A row of texts that is the call's own (blocks from B on) and can grow. -/
def SGr (W : World) (B : Nat) (v : Value) (ws : List (List UInt8)) : Prop := W.ownsRow B 9 1 v ws.length (ws.map tv)
theorem SGr.chg {P : Nat → Prop} {W W' : World} {B : Nat} {v : Value} {ws : List (List UInt8)} (h : SGr W B v ws) (c : Chg P W W') (hp : ∀ i, B ≤ i → i < W.heap.size → ¬ P i) : SGr W' B v ws := by
  obtain ⟨hl, h0 | ⟨g, cap, cur, e, hb, hg, r⟩⟩ := h
  · exact ⟨hl, .inl h0⟩
  · have hlt : g < W.heap.size := by rw [Array.getElem?_eq_some_iff] at hg; exact hg.1
    exact ⟨hl, .inr ⟨g, cap, cur, e, hb, (c.block g hlt (hp g hb hlt)).trans hg, r⟩⟩
theorem SGr.keep {W W' : World} {B : Nat} {v : Value} {ws : List (List UInt8)} (h : SGr W B v ws) (c : Chg nob W W') : SGr W' B v ws := h.chg c (fun _ _ _ x => x)
theorem SGr.fresh (W : World) (B : Nat) (hB : B ≤ W.heap.size) : SGr (W.alloc (.cells #[] 9)) B (.slice (some ⟨W.heap.size, 0, none⟩) 0 0) [] :=
  ⟨rfl, .inr ⟨W.heap.size, 0, #[], rfl, hB, Go.Deep.blk_alloc_new _ _, Nat.le_refl _, Nat.zero_le _, rfl, rfl⟩⟩
theorem SGr.len {W : World} {B : Nat} {v : Value} {ws : List (List UInt8)} (h : SGr W B v ws) {b : Nat} (e : v.ownBlock = some b) : B ≤ b := by
  obtain ⟨hl, ⟨rfl, _⟩ | ⟨g, cap, cur, rfl, hb, r⟩⟩ := h
  · simp [Value.ownBlock] at e
  · simp [Value.ownBlock] at e; omega
/-- What it reads as. -/
theorem SGr.row {W : World} {B : Nat} {v : Value} {ws : List (List UInt8)} (h : SGr W B v ws) : ∃ c cap, v = .slice c ws.length cap ∧ RowV W c ws.length (tvs ws) := by
  obtain ⟨hl, ⟨rfl, h0⟩ | ⟨g, cap, cur, rfl, hb, hg, hc, hm, hs, ht⟩⟩ := h
  · exact ⟨Option.none, 0, by rw [h0], fun i hi => by omega⟩
  · refine ⟨_, cap, rfl, fun i hi => ⟨g, 0, rfl, ?_, ?_⟩⟩
    · rw [Array.getElem?_eq_some_iff] at hg; exact hg.1
    · have h1 : (cur.toList.take (ws.length * 1))[i]? = some (tvs ws i) := by
        rw [ht, List.getElem?_map, List.getElem?_eq_getElem hi]
        simp [tvs, List.getD_eq_getElem?_getD, List.getElem?_eq_getElem hi]
      rw [List.getElem?_take, if_pos (by omega), Array.getElem?_toList] at h1
      unfold World.cell?
      simp [hg, h1]
section
variable {ops : Array Oper} {rest : List Oper} {o : Oper} {a : Act} {w : World} {Q : Exit → Act → World → Prop}
/-- append(x, t), t in a block of its own. -/
theorem wpList_appS (hgd : o.guard = none) (x y : Operand) (hop : o.op = .call { callee := .builtin .append, args := #[x, y], argTypes := #[37, 37] }) (B g : Nat) (v : Value) (ws : List (List UInt8)) (l : List UInt8)
    (hx : a.eval x = v) (hy : a.eval y = .slice (some ⟨g, 0, Option.none⟩) 1 1) (hr : SGr w B v ws) (hc : w.cell? ⟨g, 0, Option.none⟩ = some (tv l)) (hk : ws.length ≤ 1000000) (hB : B ≤ w.heap.size)
    (h : ∀ v' w', SGr w' B v' (ws ++ [l]) → Chg (fun i => B ≤ i) w w' → wpList Tryd.prog ops Q rest (a.put o.dst v') w') : wpList Tryd.prog ops Q (o :: rest) a w := by
  obtain ⟨i0, hi, hz0, hz1, hz2⟩ := info_parts infoStr
  refine wpList_append_own w hgd x y 37 hop B 9 i0 (.string ByteArray.empty) 1 16 Tryd.underlying37 hi hz0 hz1 hz2 rfl (by decide) v ws.length (ws.map tv) hx hr ⟨g, 0, Option.none⟩ 1 1 [tv l] hy rfl ?_ ?_ (by unfold maxLen; omega) (by omega) hB ?_
  · intro j u hj
    match j, hj with
    | 0, hj => simp at hj; subst hj; simpa [Addr.add] using hc
    | j + 1, hj => simp at hj
  · intro u hu
    simp at hu
    subst hu
    rfl
  · intro v' w' hown hgr _
    refine h v' w' (by unfold SGr; rw [List.map_append, List.length_append]; exact hown) ((Chg.refl _ w).grown hgr (fun b e _ => hr.len e))
end

end Go.Proofs.YtppiilbcnkphbaaDoor
