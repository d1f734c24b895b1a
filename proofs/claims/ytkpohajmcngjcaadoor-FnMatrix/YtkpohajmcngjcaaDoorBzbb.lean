/- Several texts in one: Words on memory: whole arrays by value, out of rows and into rows. No program is named here. · Tables by value (a size and 64 elements): words on memory and laws. No condition but those that each theorem states. -/
import Derived.Test.YtkpohajmcngjcaaDoorBzaa
import Derived.WalkKit
import Derived.Laws.Rows
import Derived.Laws.Tables
import Derived.Deep.WholeRow
import Derived.Test.YtkpohajmcngjcaaDoorBzay
import Derived.Test.YtkpohajmcngjcaaDoorBzas
import Derived.Laws.CopyRow
import Derived.Laws.CopyOwn
namespace Go.Proofs.YtkpohajmcngjcaaDoor
open Go.RowKit

/-- n values in an array. -/
def rowA (n : Nat) (f : Nat → Value) : Array Value := ((List.range n).map f).toArray
theorem rowA_size (n : Nat) (f : Nat → Value) : (rowA n f).size = n := by simp [rowA]
theorem rowA_at (n : Nat) (f : Nat → Value) (i : Nat) (h : i < n) : (rowA n f)[i]? = some (f i) := by simp [rowA, h]
theorem rowA_congr {n : Nat} {f g : Nat → Value} (h : ∀ i, i < n → f i = g i) : rowA n f = rowA n g := by
  unfold rowA
  congr 1
  exact List.map_congr_left (fun i hi => h i (by simpa using hi))
theorem rowA_of {w : World} {b : Nat} {t : TypeId} {n : Nat} {f : Nat → Value} (h : w.rowIs b t n f) : w.heap[b]? = some (.cells (rowA n f) t (0, 0)) := by
  obtain ⟨c, hb, hn, hc⟩ := h
  have e : c = rowA n f := by
    apply Array.ext_getElem?
    intro i
    by_cases hi : i < n
    · rw [hc i hi, rowA_at n f i hi]
    · rw [Array.getElem?_eq_none (by omega), Array.getElem?_eq_none (by rw [rowA_size]; omega)]
  rw [hb, e]
theorem rowIs_of {w : World} {b : Nat} {t : TypeId} {n : Nat} {f : Nat → Value} (h : w.heap[b]? = some (.cells (rowA n f) t (0, 0))) : w.rowIs b t n f :=
  ⟨_, h, rowA_size n f, fun i hi => rowA_at n f i hi⟩
theorem rowIs_new (w : World) (n : Nat) (f : Nat → Value) (t : TypeId) : (w.alloc (.cells (rowA n f) t)).rowIs w.heap.size t n f :=
  rowIs_of (heap_alloc_last w _)
theorem rowIs_newOf (w : World) (n : Nat) (f : Nat → Value) (t : TypeId) (c : Array Value) (h : c = rowA n f) : (w.alloc (.cells c t)).rowIs w.heap.size t n f := by
  subst h; exact rowIs_new w n f t
theorem rowIs_at (w : World) (g : Nat) (hg : g = w.heap.size) (n : Nat) (f : Nat → Value) (t : TypeId) (c : Array Value) (h : c = rowA n f) : (w.alloc (.cells c t)).rowIs g t n f := by
  subst hg; exact rowIs_newOf w n f t c h
theorem made_at (w : World) (g : Nat) (hg : g = w.heap.size) (z : Value) (n : Nat) (t : TypeId) : (w.alloc (.cells (madeCells #[z] n) t)).rowIs g t n (fun _ => z) := by
  subst hg; exact World.rowIs_made w z n t

section
variable {P : Program}
/-- A whole array out of its row. -/
theorem wpList_load_all {ops : Array Oper} {rest : List Oper} {o : Oper} {a : Act} {w : World} {Q : Exit → Act → World → Prop} (ty : TypeId) (x : Operand) (hgd : o.guard = none) (ho : o.op = .load ty x)
    (g : Nat) (hx : a.eval x = .pointer (some ⟨g, 0, none⟩)) (n : Nat) (e : TypeId) (f : Nat → Value) (t : TypeId) (hr : w.rowIs g t n f)
    (hu : P.underlying ty = some (.array n e)) (hi : (P.info? ty).map (·.size) = some n)
    (h : wpList P ops Q rest (a.put o.dst (.agg (rowA n f))) w) : wpList P ops Q (o :: rest) a w :=
  wpList_load_row hgd ty x ho g hx t (rowA n f) (0, 0) (.array n e) (rowA_of hr) hu rfl (by rw [rowA_size]; exact hi) h
/-- A whole array into a row. -/
theorem wpList_store_all {ops : Array Oper} {rest : List Oper} {o : Oper} {a : Act} {w : World} {Q : Exit → Act → World → Prop} (ty : TypeId) (x y : Operand) (hgd : o.guard = none) (ho : o.op = .store ty x y)
    (g : Nat) (n : Nat) (f : Nat → Value) (hx : a.eval x = .pointer (some ⟨g, 0, none⟩)) (hy : a.eval y = .agg (rowA n f))
    (t : TypeId) (f0 : Nat → Value) (hr : w.rowIs g t n f0) (hi : (P.info? ty).map (·.size) = some n)
    (h1 : ∀ i, i < n → (f i).oneCell' = true)
    (h : ∀ w', w'.rowIs g t n f → Chg (fun b => b = g) w w' → wpList P ops Q rest (a.put o.dst undef) w') : wpList P ops Q (o :: rest) a w := by
  refine wpList_store_row hgd ty x y ho g (rowA n f) hx hy t (rowA n f0) (rowA_of hr) (by rw [rowA_size]; exact hi) (by rw [rowA_size, rowA_size]) ?_ (h _ ?_ ?_)
  · rw [Array.all_eq_true_iff_forall_mem]
    intro v hv
    simp only [rowA, List.mem_toArray, List.mem_map, List.mem_range] at hv
    obtain ⟨i, hi, rfl⟩ := hv
    exact h1 i hi
  · apply rowIs_of
    have := rowA_of hr
    simp [World.setRow, Array.getElem?_modify, this]
  · refine ⟨rfl, rfl, rfl, by simp [World.setRow], fun k hk hp => ?_⟩
    simp only [World.setRow, Array.getElem?_modify]
    rw [if_neg (fun e => hp e.symm)]
/-- What is handed back by value. -/
theorem results_all {fn : Func} {p : Tmp} {ty : TypeId} (h : fn.results = #[.cell p ty]) (tmps : Array Value) (w : World) (g : Nat) (hp : tmps.getD p undef = .pointer (some ⟨g, 0, none⟩)) (n : Nat) (e : TypeId) (f : Nat → Value) (t : TypeId) (hr : w.rowIs g t n f)
    (hu : P.underlying ty = some (.array n e)) (hi : (P.info? ty).map (·.size) = some n) : (results fn tmps).run P w = .ok (.agg (rowA n f)) w :=
  results_cell_row h tmps w g t (rowA n f) (0, 0) (.array n e) hp (rowA_of hr) hu rfl (by rw [rowA_size]; exact hi)
end

end Go.Proofs.YtkpohajmcngjcaaDoor

namespace Go.Proofs.YtkpohajmcngjcaaDoor
open Go.ChangeShapes Go.WideShapes Go.ChangeAt Go.RowKit
set_option linter.unusedVariables false
set_option maxRecDepth 100000
set_option linter.unusedSimpArgs false

/-- The cells of a table by value: its size, then its elements. -/
def cv (s : Nat) (t : Nat → El) (i : Nat) : Value := if i = 0 then .int .i64 (s : Int) else if i % 2 = 1 then .int .i64 (t (i / 2)).v.1 else .int .i64 (t (i / 2 - 1)).v.2
theorem cv_one (s : Nat) (t : Nat → El) (i : Nat) : (cv s t i).oneCell' = true := by
  unfold cv
  by_cases h : i = 0
  · rw [if_pos h]; rfl
  · rw [if_neg h]
    by_cases h2 : i % 2 = 1
    · rw [if_pos h2]; rfl
    · rw [if_neg h2]; rfl
theorem cv_a (s : Nat) (t : Nat → El) (k : Nat) : cv s t (1 + k * 2) = .int .i64 (t k).v.1 := by
  unfold cv
  rw [if_neg (by omega), if_pos (by omega), show (1 + k * 2) / 2 = k by omega]
theorem cv_b (s : Nat) (t : Nat → El) (k : Nat) : cv s t (1 + k * 2 + 1) = .int .i64 (t k).v.2 := by
  unfold cv
  rw [if_neg (by omega), if_neg (by omega), show (1 + k * 2 + 1) / 2 - 1 = k by omega]
def cb (s : Nat) (t : Nat → El) : Array Value := rowA 129 (cv s t)
theorem infoQb : (Tryd.prog.info? 64).map (fun i => (i.zero, i.size)) = some (some (.agg (cb 0 zE)), 129) := by kernel_rfl
theorem infoC1 : (Tryd.prog.info? 64).map (·.size) = some 129 := by kernel_rfl
/-- A table by value in block b. -/
def Cub (w : World) (b s : Nat) (t : Nat → El) : Prop := w.rowIs b 64 129 (cv s t)
theorem Cub.new (w : World) (s : Nat) (t : Nat → El) : Cub (w.alloc (.cells (cb s t) 64)) w.heap.size s t := rowIs_new w 129 (cv s t) _
theorem Cub.at_ (w : World) (g : Nat) (hg : g = w.heap.size) (s : Nat) (t : Nat → El) : Cub (w.alloc (.cells (cb s t) 64)) g s t := by subst hg; exact Cub.new w s t
theorem Cub.keep {w w' : World} {b s : Nat} {t : Nat → El} (h : Cub w b s t) (k : Chg nob w w') : Cub w' b s t := rowIs_keep h k
theorem Cub.chg {P : Nat → Prop} {w w' : World} {b s : Nat} {t : Nat → El} (h : Cub w b s t) (k : Chg P w w') (hp : ¬ P b) : Cub w' b s t := rowIs_chg h k hp
theorem Cub.lt {w : World} {b s : Nat} {t : Nat → El} (h : Cub w b s t) : b < w.heap.size := World.rowIs.lt h
theorem Cub.c {w : World} {b s : Nat} {t : Nat → El} (h : Cub w b s t) : w.cell? ⟨b, 0, none⟩ = some (.int .i64 (s : Int)) := World.rowIs.cell h (by omega)
theorem Cub.c0 {w : World} {b s : Nat} {t : Nat → El} (h : Cub w b s t) {k : Nat} (hk : k < 64) : w.cell? ⟨b, 1 + k * 2, none⟩ = some (.int .i64 (t k).v.1) := by rw [World.rowIs.cell h (by omega), cv_a]
theorem Cub.c1 {w : World} {b s : Nat} {t : Nat → El} (h : Cub w b s t) {k : Nat} (hk : k < 64) : w.cell? ⟨b, 1 + k * 2 + 1, none⟩ = some (.int .i64 (t k).v.2) := by rw [World.rowIs.cell h (by omega), cv_b]
theorem Cub.fz {w : World} {b s : Nat} {t : Nat → El} (h : Cub w b s t) (o : Nat) : w.frozen? ⟨b, o, none⟩ = false := World.rowIs.frozen h o
theorem Cub.congr {w : World} {b s : Nat} {t u : Nat → El} (h : Cub w b s t) (e : ∀ i, i < 64 → t i = u i) : Cub w b s u :=
  World.rowIs.congr h (fun i hi => by
    unfold cv
    by_cases h0 : i = 0
    · rw [if_pos h0, if_pos h0]
    · rw [if_neg h0, if_neg h0, e (i / 2 - 1) (by omega)]
      by_cases h1 : i % 2 = 1
      · rw [if_pos h1, if_pos h1, e (i / 2) (by omega)]
      · rw [if_neg h1, if_neg h1])
theorem Cub.set {w : World} {b s : Nat} {t : Nat → El} (h : Cub w b s t) (k : Nat) (x : El) : Cub ((w.setCell ⟨b, 1 + k * 2, none⟩ (.int .i64 x.v.1)).setCell ⟨b, 1 + k * 2 + 1, none⟩ (.int .i64 x.v.2)) b s (upE t k x) :=
  World.rowIs.congr (World.rowIs.set (World.rowIs.set h (1 + k * 2) _) (1 + k * 2 + 1) _) (fun i hi => by
    by_cases e1 : i = 1 + k * 2 + 1
    · subst e1; rw [if_pos rfl, cv_b]; unfold upE; rw [if_pos rfl]
    · rw [if_neg e1]
      by_cases e2 : i = 1 + k * 2
      · subst e2; rw [if_pos rfl, cv_a]; unfold upE; rw [if_pos rfl]
      · rw [if_neg e2]
        unfold cv upE
        by_cases h0 : i = 0
        · rw [if_pos h0, if_pos h0]
        · rw [if_neg h0, if_neg h0]
          by_cases h1 : i % 2 = 1
          · rw [if_pos h1, if_pos h1, if_neg (by omega)]
          · rw [if_neg h1, if_neg h1, if_neg (by omega)])
theorem Cub.size {w : World} {b s : Nat} {t : Nat → El} (h : Cub w b s t) (s' : Nat) : Cub (w.setCell ⟨b, 0, none⟩ (.int .i64 (s' : Int))) b s' t :=
  World.rowIs.congr (World.rowIs.set h 0 _) (fun i hi => by
    unfold cv
    by_cases h0 : i = 0
    · rw [if_pos h0, if_pos h0]
    · rw [if_neg h0, if_neg h0, if_neg h0])
theorem Cub.pairs {w : World} {b s : Nat} {t : Nat → El} (h : Cub w b s t) {n : Nat} (hn : n ≤ 64) : PairE w (some ⟨b, 1, none⟩) n t := fun i hi =>
  ⟨b, 1, rfl, h.lt, h.c0 (by omega), h.c1 (by omega)⟩

theorem Cub.other {w : World} {b g s : Nat} {t : Nat → El} (h : Cub w b s t) (hne : b ≠ g) (o o' : Nat) (u v : Value) : Cub ((w.setCell ⟨g, o, none⟩ u).setCell ⟨g, o', none⟩ v) b s t :=
  World.rowIs.setOther (a := ⟨g, o', none⟩) (World.rowIs.setOther (a := ⟨g, o, none⟩) h hne u) hne v

section
variable {ops : Array Oper} {rest : List Oper} {o : Oper} {a : Act} {w : World} {Q : Exit → Act → World → Prop}
/-- A whole table out of its block. -/
theorem wpList_load_cub (x : Operand) (hgd : o.guard = none) (ho : o.op = .load 64 x) (g : Nat) (hx : a.eval x = .pointer (some ⟨g, 0, none⟩)) {s : Nat} {t : Nat → El} (hr : Cub w g s t)
    (h : wpList Tryd.prog ops Q rest (a.put o.dst (.agg (cb s t))) w) : wpList Tryd.prog ops Q (o :: rest) a w :=
  wpList_load_row hgd 64 x ho g hx 64 (cb s t) (0, 0) _ (rowA_of hr) Tryd.underlying64 rfl (by rw [cb, rowA_size]; exact infoC1) h
/-- And into it. -/
theorem wpList_store_cub (x y : Operand) (hgd : o.guard = none) (ho : o.op = .store 64 x y) (g : Nat) {s : Nat} {t : Nat → El} (hx : a.eval x = .pointer (some ⟨g, 0, none⟩)) (hy : a.eval y = .agg (cb s t)) {s0 : Nat} {t0 : Nat → El} (hr : Cub w g s0 t0)
    (h : ∀ w', Cub w' g s t → Chg (fun b => b = g) w w' → wpList Tryd.prog ops Q rest (a.put o.dst undef) w') : wpList Tryd.prog ops Q (o :: rest) a w :=
  wpList_store_all 64 x y hgd ho g 129 (cv s t) hx hy 64 (cv s0 t0) hr infoC1 (fun i _ => cv_one s t i) h
theorem results_cub {fn : Func} {p : Tmp} (h : fn.results = #[.cell p 64]) (tmps : Array Value) (w : World) (g : Nat) (hp : tmps.getD p undef = .pointer (some ⟨g, 0, none⟩)) {s : Nat} {t : Nat → El} (hr : Cub w g s t) : (results fn tmps).run Tryd.prog w = .ok (.agg (cb s t)) w :=
  results_cell_row h tmps w g 64 (cb s t) (0, 0) _ hp (rowA_of hr) Tryd.underlying64 rfl (by rw [cb, rowA_size]; exact infoC1)
/-- A table of no element but a size. -/
theorem wpList_build_cub (x : Operand) (hgd : o.guard = none) (ho : o.op = .build 64 #[(0, x)]) (s : Nat) (hx : a.eval x = .int .i64 (s : Int))
    (h : wpList Tryd.prog ops Q rest (a.put o.dst (.agg (cb s zE))) w) : wpList Tryd.prog ops Q (o :: rest) a w := by
  have e : Tryd.prog.built 64 (#[(0, x)].map fun (i, x) => (i, a.eval x)).toList = some (cb s zE) := by
    simp only [List.map_toArray, List.map_cons, List.map_nil, hx]
    kernel_rfl
  refine wpList_build hgd 64 #[(0, x)] ho (by rw [e]; rfl) ?_
  rw [e]
  exact h
end

end Go.Proofs.YtkpohajmcngjcaaDoor
