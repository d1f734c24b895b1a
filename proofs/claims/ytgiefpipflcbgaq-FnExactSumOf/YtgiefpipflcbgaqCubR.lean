/- Tables by value in rows: words on memory; calls through function values: a law. No condition but those that each theorem states. -/
import Derived.Test.YtgiefpipflcbgaqCubF
import Derived.Test.YtgiefpipflcbgaqCubG
import Derived.Test.YtgiefpipflcbgaqStepL
import Derived.Test.YtgiefpipflcbgaqSumM
import Derived.Deep.MidRow
import Derived.Laws.EntriesVeiled
namespace Go.Proofs.Ytgiefpipflcbgaq
open Go.ChangeShapes Go.WideShapes Go.ChangeAt Go.RowKit
set_option linter.unusedVariables false
set_option maxRecDepth 100000
set_option linter.unusedSimpArgs false

/-- Table i of a row has size S i and the elements T i: its cells. -/
def cvs (S : Nat → Nat) (T : Nat → Nat → El) (i : Nat) : Value := cv (S (i / 129)) (T (i / 129)) (i % 129)
theorem cvs_at (S : Nat → Nat) (T : Nat → Nat → El) (k j : Nat) (hj : j < 129) : cvs S T (k * 129 + j) = cv (S k) (T k) j := by
  unfold cvs
  rw [show (k * 129 + j) / 129 = k by omega, show (k * 129 + j) % 129 = j by omega]
theorem cv_congr {s i : Nat} {t u : Nat → El} (hi : i < 129) (e : ∀ j, j < 64 → t j = u j) : cv s t i = cv s u i := by
  unfold cv
  by_cases h0 : i = 0
  · rw [if_pos h0, if_pos h0]
  · rw [if_neg h0, if_neg h0, e (i / 2 - 1) (by omega)]
    by_cases h1 : i % 2 = 1
    · rw [if_pos h1, if_pos h1, e (i / 2) (by omega)]
    · rw [if_neg h1, if_neg h1]
/-- n tables by value in block b. -/
def Cbs (w : World) (b n : Nat) (S : Nat → Nat) (T : Nat → Nat → El) : Prop := w.rowIs b 59 (n * 129) (cvs S T)
section
variable {w w' : World} {b n : Nat} {S S' : Nat → Nat} {T T' : Nat → Nat → El}
theorem Cbs.keep (h : Cbs w b n S T) (k : Chg nob w w') : Cbs w' b n S T := rowIs_keep h k
theorem Cbs.chg {P : Nat → Prop} (h : Cbs w b n S T) (k : Chg P w w') (hp : ¬ P b) : Cbs w' b n S T := rowIs_chg h k hp
theorem Cbs.lt (h : Cbs w b n S T) : b < w.heap.size := World.rowIs.lt h
theorem Cbs.fz (h : Cbs w b n S T) (o : Nat) : w.frozen? ⟨b, o, none⟩ = false := World.rowIs.frozen h o
theorem Cbs.cell (h : Cbs w b n S T) {k j : Nat} (hk : k < n) (hj : j < 129) : w.cell? ⟨b, k * 129 + j, none⟩ = some (cv (S k) (T k) j) := by
  rw [World.rowIs.cell h (by omega), cvs_at S T k j hj]
theorem Cbs.c (h : Cbs w b n S T) {k : Nat} (hk : k < n) : w.cell? ⟨b, k * 129, none⟩ = some (.int .i64 (S k : Int)) := by
  have q := h.cell (j := 0) hk (by omega)
  rw [Nat.add_zero, cv_0] at q
  exact q
theorem Cbs.c0 (h : Cbs w b n S T) {k j : Nat} (hk : k < n) (hj : j < 64) : w.cell? ⟨b, k * 129 + 1 + j * 2, none⟩ = some (.int .i64 (T k j).v.1) := by
  rw [Nat.add_assoc, h.cell hk (by omega), cv_a]
theorem Cbs.c1 (h : Cbs w b n S T) {k j : Nat} (hk : k < n) (hj : j < 64) : w.cell? ⟨b, k * 129 + 1 + j * 2 + 1, none⟩ = some (.int .i64 (T k j).v.2) := by
  rw [Nat.add_assoc, Nat.add_assoc, ← Nat.add_assoc 1, h.cell hk (by omega), cv_b]
theorem Cbs.congr (h : Cbs w b n S T) (e1 : ∀ i, i < n → S i = S' i) (e2 : ∀ i, i < n → ∀ j, j < 64 → T i j = T' i j) : Cbs w b n S' T' :=
  World.rowIs.congr h (fun i hi => by
    unfold cvs
    have hi' : i / 129 < n := by omega
    rw [e1 _ hi', cv_congr (Nat.mod_lt i (by omega)) (e2 _ hi')])
theorem Cbs.range (h : Cbs w b n S T) {k : Nat} (hk : k < n) : w.rangeAt b (k * 129) (cb (S k) (T k)).toList := fun j v hv => by
  have hj : j < 129 := by
    have := (List.getElem?_eq_some_iff.1 hv).1
    rw [Array.length_toList, cb, rowA_size] at this
    exact this
  rw [h.cell hk hj]
  rw [Array.getElem?_toList, cb, rowA_at 129 _ j hj] at hv
  exact hv
theorem Cbs.there (h : Cbs w b n S T) {k : Nat} (hk : k < n) (s : Nat) (t : Nat → El) : w.there b (k * 129) (cb s t).size := fun j hj => by
  rw [cb, rowA_size] at hj
  exact ⟨by rw [h.cell hk hj]; rfl, h.fz _⟩
theorem cb_len (s : Nat) (t : Nat → El) : (cb s t).toList.length = 129 := by rw [Array.length_toList, cb, rowA_size]
theorem rowIs_cells {b : Nat} {t : TypeId} {n : Nat} : ∀ (vs : List Value) (o : Nat) (w : World) (f : Nat → Value), w.rowIs b t n f → (w.setCells b o vs).rowIs b t n (fun j => if o ≤ j ∧ j < o + vs.length then vs[j - o]?.getD undef else f j)
  | [], o, w, f, h => World.rowIs.congr h (fun j _ => by rw [if_neg (by simp)])
  | v :: r, o, w, f, h => by
    refine World.rowIs.congr (rowIs_cells r (o + 1) _ _ (World.rowIs.set h o v)) (fun j _ => ?_)
    by_cases q : j = o
    · subst q
      rw [if_neg (by omega), if_pos rfl, if_pos (show j ≤ j ∧ j < j + (v :: r).length from ⟨Nat.le_refl _, by simp⟩), Nat.sub_self]
      rfl
    · by_cases q2 : o + 1 ≤ j ∧ j < o + 1 + r.length
      · rw [if_pos q2, if_pos ⟨by omega, by simp only [List.length_cons]; omega⟩, show j - o = (j - (o + 1)) + 1 by omega, List.getElem?_cons_succ]
      · rw [if_neg q2, if_neg q, if_neg (by simp only [List.length_cons]; omega)]
theorem chg_cells {P : Nat → Prop} {a : World} {b : Nat} : ∀ (vs : List Value) (o : Nat) (w : World), Chg P a w → (b < a.heap.size → P b) → Chg P a (w.setCells b o vs)
  | [], _, _, h, _ => h
  | v :: r, o, w, h, hp => chg_cells r (o + 1) _ (h.setCell (p := ⟨b, o, none⟩) hp v) hp
theorem Cbs.put (h : Cbs w b n S T) {k : Nat} (hk : k < n) (s : Nat) (t : Nat → El) : Cbs (w.setCells b (k * 129) (cb s t).toList) b n (fun i => if i = k then s else S i) (fun i => if i = k then t else T i) :=
  World.rowIs.congr (rowIs_cells _ _ _ _ h) (fun i hi => by
    rw [cb_len]
    unfold cvs
    dsimp only
    by_cases q : i / 129 = k
    · rw [if_pos (by omega), if_pos q, if_pos q, Array.getElem?_toList, cb, rowA_at 129 _ _ (by omega), show i - k * 129 = i % 129 by omega]
      rfl
    · rw [if_neg (by omega), if_neg q, if_neg q])
end
theorem infoC3 : (Try.prog.info? 59).map (fun i => (i.zero, i.size, i.bytes)) = some (some (.agg (cb 0 zE)), 129, 1032) := by kernel_rfl
theorem infoC_parts : ∃ i, Try.prog.info? 59 = some i ∧ i.zero = some (.agg (cb 0 zE)) ∧ i.size = 129 ∧ i.bytes = 1032 := by
  have h := infoC3
  cases q : Try.prog.info? 59 with
  | none => rw [q] at h; cases h
  | some i =>
    rw [q] at h
    simp only [Option.map_some, Option.some.injEq, Prod.mk.injEq] at h
    exact ⟨i, rfl, h.1, h.2.1, h.2.2⟩
section
variable {ops : Array Oper} {rest : List Oper} {o : Oper} {a : Act} {w : World} {Q : Exit → Act → World → Prop}
/-- make([]cube, n). -/
theorem wpList_make_cubes (w : World) (hg : o.guard = none) (l c : Operand) (hop : o.op = Op.makeSlice 52 l c)
    (n : Nat) (L C : Int) (hl : a.eval l = .int .i64 L) (hc : a.eval c = .int .i64 C) (hL : L = (n : Int)) (hC : C = (n : Int)) (hn : n ≤ 4096)
    (hK : ∀ w', Cbs w' w.heap.size n (fun _ => 0) (fun _ => zE) → Chg nob w w' → wpList Try.prog ops Q rest (a.put o.dst (.slice (some ⟨w.heap.size, 0, none⟩) n n)) w') :
    wpList Try.prog ops Q (o :: rest) a w := by
  obtain ⟨i, h2, h3, h4, h5⟩ := infoC_parts
  refine wpList_plain hg fun K hK' => ?_
  have hrun := run_make (P := Try.prog) w 52 59 i _ Try.underlying52 h2 h3 .i64 .i64 n n (by omega) (Int.le_refl _) (by rw [h5]; omega) (by omega)
  simp only [Int.toNat_natCast, h4] at hrun
  subst hL
  subst hC
  unfold Oper.wp
  simp [execOp, hop, hl, hc, hrun, Result.andThen]
  refine hK' _ _ (hK _ ⟨_, Go.Deep.blk_alloc_new _ _, size_madeCells _ _, fun j hj => ?_⟩ ((Chg.refl _ _).alloc _))
  have h9 : j % 129 < (cb 0 zE).size := by rw [cb, rowA_size]; exact Nat.mod_lt _ (by omega)
  have hs : (cb 0 zE).size = 129 := by rw [cb, rowA_size]
  simp only [madeCells, Value.cells, hs]
  rw [Array.getElem?_map, Array.getElem?_range, if_pos hj]
  simp only [Option.map_some, cvs]
  rw [getElem!_pos (cb 0 zE) (j % 129) h9]
  congr 1
  exact rowA_get 129 _ _ h9
/-- A table out of a row. -/
theorem wpList_load_cbs (x : Operand) (hgd : o.guard = none) (ho : o.op = .load 59 x) (b n k : Nat) (S : Nat → Nat) (T : Nat → Nat → El) (hx : a.eval x = .pointer (some ⟨b, k * 129, none⟩)) (hr : Cbs w b n S T) (hk : k < n)
    (h : wpList Try.prog ops Q rest (a.put o.dst (.agg (cb (S k) (T k)))) w) : wpList Try.prog ops Q (o :: rest) a w :=
  wpList_load_mid hgd 59 x ho b (k * 129) hx (cb (S k) (T k)).toList _ (hr.range hk) Try.underlying59 rfl (by rw [cb_len]; exact infoC1) (by rw [Array.toArray_toList]; exact h)
/-- The same in a region that draws its order. -/
theorem yields_load_cbs {R : World → Prop} (hw : Region.wanted o (yielded ops a.tmps) = true) (x : Operand) (ho : o.op = .load 59 x) (b k s : Nat) (t : Nat → El) (hx : a.eval x = .pointer (some ⟨b, k * 129, none⟩)) (hS : ∀ w, R w → w.rangeAt b (k * 129) (cb s t).toList) : YieldsIf Try.prog ops R o (.agg (cb s t)) a := by
  have := yieldsIf_load_mid (P := Try.prog) hw 59 x ho b (k * 129) hx (cb s t).toList _ hS Try.underlying59 rfl (by rw [cb_len]; exact infoC1)
  rw [Array.toArray_toList] at this
  exact this
theorem cb_one (s : Nat) (t : Nat → El) : (cb s t).all (·.oneCell') = true := by
  rw [Array.all_eq_true_iff_forall_mem]
  intro v hv
  simp only [cb, rowA, List.mem_toArray, List.mem_map, List.mem_range] at hv
  obtain ⟨i, _, rfl⟩ := hv
  exact cv_one s t i
/-- A table into a row, a step of a region that draws its order. -/
theorem stepL_store_cbs {K : Act → World → Prop} {E : Prop} (x y : Operand) (ho : o.op = .store 59 x y) (hw : Region.wanted o (yielded ops a.tmps) = true) (b n k s : Nat) (t : Nat → El) (S : Nat → Nat) (T : Nat → Nat → El) (hx : a.eval x = .pointer (some ⟨b, k * 129, none⟩)) (hy : a.eval y = .agg (cb s t)) (hr : Cbs w b n S T) (hk : k < n)
    (h : ∀ w', Cbs w' b n (fun i => if i = k then s else S i) (fun i => if i = k then t else T i) → Chg (fun x => x = b) w w' → K (a.put o.dst undef) w') :
    if Region.wanted o (yielded ops a.tmps) = true then Oper.wp Try.prog o a w K Q else E := by
  rw [if_pos hw]
  exact wp_store_mid 59 x y ho b (k * 129) (cb s t) hx hy (hr.there hk s t) (by rw [cb, rowA_size]; exact infoC1) (cb_one s t) (h _ (hr.put hk s t) (chg_cells _ _ _ (Chg.refl _ _) (fun _ => rfl)))
/-- A table into a row. -/
theorem wpList_store_cbs (x y : Operand) (hgd : o.guard = none) (ho : o.op = .store 59 x y) (b n k s : Nat) (t : Nat → El) (S : Nat → Nat) (T : Nat → Nat → El) (hx : a.eval x = .pointer (some ⟨b, k * 129, none⟩)) (hy : a.eval y = .agg (cb s t)) (hr : Cbs w b n S T) (hk : k < n)
    (h : ∀ w', Cbs w' b n (fun i => if i = k then s else S i) (fun i => if i = k then t else T i) → Chg (fun x => x = b) w w' → wpList Try.prog ops Q rest (a.put o.dst undef) w') : wpList Try.prog ops Q (o :: rest) a w := by
  refine wpList_store_mid hgd 59 x y ho b (k * 129) (cb s t) hx hy (hr.there hk s t) (by rw [cb, rowA_size]; exact infoC1) ?_ (h _ (hr.put hk s t) (chg_cells _ _ _ (Chg.refl _ _) (fun _ => rfl)))
  rw [Array.all_eq_true_iff_forall_mem]
  intro v hv
  simp only [cb, rowA, List.mem_toArray, List.mem_map, List.mem_range] at hv
  obtain ⟨i, _, rfl⟩ := hv
  exact cv_one s t i
end
section
variable {P : Program} {ops : Array Oper} {o : Oper} {a : Act} {w : World} {K : Act → World → Prop} {Q : Exit → Act → World → Prop} {E : Prop}
/-- A call of a function value, a step of a region that draws its order. -/
theorem stepL_callV (f : FuncId) (x : Operand) (first cap : Array Value) (xs : Array Operand) (ats : Array TypeId) (hop : o.op = .call { callee := .value x, args := xs, argTypes := ats }) (hw : Region.wanted o (yielded ops a.tmps) = true) (hx : a.eval x = .func (.func f) first cap) (args : Array Value) (hargs : first ++ xs.map a.eval ++ cap = args) (hcf : (callFunc f args).run P w = .ok (.enter f args) w) {R : Ending → World → Prop} (h : Calls P f args w R) (hR : ∀ e W, R e W → ∃ v, e = .returned v ∧ K (a.put o.dst v) W) :
    if Region.wanted o (yielded ops a.tmps) = true then Oper.wp P o a w K Q else E := by
  rw [if_pos hw]
  unfold Oper.wp
  have e1 : execOp a.eval o = callFunc f (first ++ xs.map a.eval ++ cap) := by
    obtain ⟨dst', op, ty, pos, after, guard⟩ := o
    simp only at hop
    subst hop
    simp only [execOp, resolve, hx]
    rfl
  rw [e1, hargs, hcf, Oper.upon_enter]
  exact h.mono (fun e W r => by
    obtain ⟨v, rfl, k⟩ := hR e W r
    exact k)
end
end Go.Proofs.Ytgiefpipflcbgaq
