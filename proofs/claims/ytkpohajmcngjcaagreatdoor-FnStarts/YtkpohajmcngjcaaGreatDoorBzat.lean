/- Several texts in one: Words on memory: whole arrays by value, out of rows and into rows. No program is named here. · Tables by value (a size and 64 elements): words on memory and laws. No condition but those that each theorem states. · What the program's tables by value answer: cubeFrom, list, onTheWayTo, bound: contracts. Conditions: elements of the greater field, rows that can be read, sizes of at most 64. · What the program's tables by value answer: onTheWayTo, bound, likeness: contracts. Conditions: elements of the greater field, sizes of at most 64. -/
import Derived.Test.YtkpohajmcngjcaaGreatDoorBzaa
import Derived.WalkKit
import Derived.Laws.Rows
import Derived.Laws.Tables
import Derived.Deep.WholeRow
import Derived.Test.YtkpohajmcngjcaaGreatDoorBzar
import Derived.Test.YtkpohajmcngjcaaGreatDoorBzao
import Derived.Laws.CopyRow
import Derived.Laws.CopyOwn
import Derived.Laws.Cover3
namespace Go.Proofs.YtkpohajmcngjcaaGreatDoor
open Go.RowKit

/-- n values in an array. -/
def rowA (n : Nat) (f : Nat → Value) : Array Value := ((List.range n).map f).toArray
theorem rowA_size (n : Nat) (f : Nat → Value) : (rowA n f).size = n := by simp [rowA]
theorem rowA_at (n : Nat) (f : Nat → Value) (i : Nat) (h : i < n) : (rowA n f)[i]? = some (f i) := by simp [rowA, h]
theorem rowA_congr {n : Nat} {f g : Nat → Value} (h : ∀ i, i < n → f i = g i) : rowA n f = rowA n g := by
  unfold rowA
  congr 1
  exact List.map_congr_left (fun i hi => h i (by simpa using hi))
theorem rowA_of {w : World} {b : Nat} {t : TypeId} {n : Nat} {f : Nat → Value} (h : w.rowIs b t n f) : w.heap[b]? = some (.cells (rowA n f) t (0, 0)) := by
  obtain ⟨c, hb, hn, hc⟩ := h
  have e : c = rowA n f := by
    apply Array.ext_getElem?
    intro i
    by_cases hi : i < n
    · rw [hc i hi, rowA_at n f i hi]
    · rw [Array.getElem?_eq_none (by omega), Array.getElem?_eq_none (by rw [rowA_size]; omega)]
  rw [hb, e]
theorem rowIs_of {w : World} {b : Nat} {t : TypeId} {n : Nat} {f : Nat → Value} (h : w.heap[b]? = some (.cells (rowA n f) t (0, 0))) : w.rowIs b t n f :=
  ⟨_, h, rowA_size n f, fun i hi => rowA_at n f i hi⟩
theorem rowIs_new (w : World) (n : Nat) (f : Nat → Value) (t : TypeId) : (w.alloc (.cells (rowA n f) t)).rowIs w.heap.size t n f :=
  rowIs_of (heap_alloc_last w _)
theorem rowIs_newOf (w : World) (n : Nat) (f : Nat → Value) (t : TypeId) (c : Array Value) (h : c = rowA n f) : (w.alloc (.cells c t)).rowIs w.heap.size t n f := by
  subst h; exact rowIs_new w n f t
theorem rowIs_at (w : World) (g : Nat) (hg : g = w.heap.size) (n : Nat) (f : Nat → Value) (t : TypeId) (c : Array Value) (h : c = rowA n f) : (w.alloc (.cells c t)).rowIs g t n f := by
  subst hg; exact rowIs_newOf w n f t c h
theorem made_at (w : World) (g : Nat) (hg : g = w.heap.size) (z : Value) (n : Nat) (t : TypeId) : (w.alloc (.cells (madeCells #[z] n) t)).rowIs g t n (fun _ => z) := by
  subst hg; exact World.rowIs_made w z n t

section
variable {P : Program}
/-- A whole array out of its row. -/
theorem wpList_load_all {ops : Array Oper} {rest : List Oper} {o : Oper} {a : Act} {w : World} {Q : Exit → Act → World → Prop} (ty : TypeId) (x : Operand) (hgd : o.guard = none) (ho : o.op = .load ty x)
    (g : Nat) (hx : a.eval x = .pointer (some ⟨g, 0, none⟩)) (n : Nat) (e : TypeId) (f : Nat → Value) (t : TypeId) (hr : w.rowIs g t n f)
    (hu : P.underlying ty = some (.array n e)) (hi : (P.info? ty).map (·.size) = some n)
    (h : wpList P ops Q rest (a.put o.dst (.agg (rowA n f))) w) : wpList P ops Q (o :: rest) a w :=
  wpList_load_row hgd ty x ho g hx t (rowA n f) (0, 0) (.array n e) (rowA_of hr) hu rfl (by rw [rowA_size]; exact hi) h
/-- A whole array into a row. -/
theorem wpList_store_all {ops : Array Oper} {rest : List Oper} {o : Oper} {a : Act} {w : World} {Q : Exit → Act → World → Prop} (ty : TypeId) (x y : Operand) (hgd : o.guard = none) (ho : o.op = .store ty x y)
    (g : Nat) (n : Nat) (f : Nat → Value) (hx : a.eval x = .pointer (some ⟨g, 0, none⟩)) (hy : a.eval y = .agg (rowA n f))
    (t : TypeId) (f0 : Nat → Value) (hr : w.rowIs g t n f0) (hi : (P.info? ty).map (·.size) = some n)
    (h1 : ∀ i, i < n → (f i).oneCell' = true)
    (h : ∀ w', w'.rowIs g t n f → Chg (fun b => b = g) w w' → wpList P ops Q rest (a.put o.dst undef) w') : wpList P ops Q (o :: rest) a w := by
  refine wpList_store_row hgd ty x y ho g (rowA n f) hx hy t (rowA n f0) (rowA_of hr) (by rw [rowA_size]; exact hi) (by rw [rowA_size, rowA_size]) ?_ (h _ ?_ ?_)
  · rw [Array.all_eq_true_iff_forall_mem]
    intro v hv
    simp only [rowA, List.mem_toArray, List.mem_map, List.mem_range] at hv
    obtain ⟨i, hi, rfl⟩ := hv
    exact h1 i hi
  · apply rowIs_of
    have := rowA_of hr
    simp [World.setRow, Array.getElem?_modify, this]
  · refine ⟨rfl, rfl, rfl, by simp [World.setRow], fun k hk hp => ?_⟩
    simp only [World.setRow, Array.getElem?_modify]
    rw [if_neg (fun e => hp e.symm)]
/-- What is handed back by value. -/
theorem results_all {fn : Func} {p : Tmp} {ty : TypeId} (h : fn.results = #[.cell p ty]) (tmps : Array Value) (w : World) (g : Nat) (hp : tmps.getD p undef = .pointer (some ⟨g, 0, none⟩)) (n : Nat) (e : TypeId) (f : Nat → Value) (t : TypeId) (hr : w.rowIs g t n f)
    (hu : P.underlying ty = some (.array n e)) (hi : (P.info? ty).map (·.size) = some n) : (results fn tmps).run P w = .ok (.agg (rowA n f)) w :=
  results_cell_row h tmps w g t (rowA n f) (0, 0) (.array n e) hp (rowA_of hr) hu rfl (by rw [rowA_size]; exact hi)
end

end Go.Proofs.YtkpohajmcngjcaaGreatDoor

namespace Go.Proofs.YtkpohajmcngjcaaGreatDoor
open Go.ChangeShapes Go.WideShapes Go.ChangeAt Go.RowKit
set_option linter.unusedVariables false
set_option maxRecDepth 100000
set_option linter.unusedSimpArgs false

/-- The cells of a table by value: its size, then its elements. -/
def cv (s : Nat) (t : Nat → El) (i : Nat) : Value := if i = 0 then .int .i64 (s : Int) else if i % 2 = 1 then .int .i64 (t (i / 2)).v.1 else .int .i64 (t (i / 2 - 1)).v.2
theorem cv_one (s : Nat) (t : Nat → El) (i : Nat) : (cv s t i).oneCell' = true := by
  unfold cv
  by_cases h : i = 0
  · rw [if_pos h]; rfl
  · rw [if_neg h]
    by_cases h2 : i % 2 = 1
    · rw [if_pos h2]; rfl
    · rw [if_neg h2]; rfl
theorem cv_a (s : Nat) (t : Nat → El) (k : Nat) : cv s t (1 + k * 2) = .int .i64 (t k).v.1 := by
  unfold cv
  rw [if_neg (by omega), if_pos (by omega), show (1 + k * 2) / 2 = k by omega]
theorem cv_b (s : Nat) (t : Nat → El) (k : Nat) : cv s t (1 + k * 2 + 1) = .int .i64 (t k).v.2 := by
  unfold cv
  rw [if_neg (by omega), if_neg (by omega), show (1 + k * 2 + 1) / 2 - 1 = k by omega]
def cb (s : Nat) (t : Nat → El) : Array Value := rowA 129 (cv s t)
theorem infoQb : (Tryz.prog.info? 97).map (fun i => (i.zero, i.size)) = some (some (.agg (cb 0 zE)), 129) := by kernel_rfl
theorem infoC1 : (Tryz.prog.info? 97).map (·.size) = some 129 := by kernel_rfl
/-- A table by value in block b. -/
def Cub (w : World) (b s : Nat) (t : Nat → El) : Prop := w.rowIs b 97 129 (cv s t)
theorem Cub.new (w : World) (s : Nat) (t : Nat → El) : Cub (w.alloc (.cells (cb s t) 97)) w.heap.size s t := rowIs_new w 129 (cv s t) _
theorem Cub.at_ (w : World) (g : Nat) (hg : g = w.heap.size) (s : Nat) (t : Nat → El) : Cub (w.alloc (.cells (cb s t) 97)) g s t := by subst hg; exact Cub.new w s t
theorem Cub.keep {w w' : World} {b s : Nat} {t : Nat → El} (h : Cub w b s t) (k : Chg nob w w') : Cub w' b s t := rowIs_keep h k
theorem Cub.chg {P : Nat → Prop} {w w' : World} {b s : Nat} {t : Nat → El} (h : Cub w b s t) (k : Chg P w w') (hp : ¬ P b) : Cub w' b s t := rowIs_chg h k hp
theorem Cub.lt {w : World} {b s : Nat} {t : Nat → El} (h : Cub w b s t) : b < w.heap.size := World.rowIs.lt h
theorem Cub.c {w : World} {b s : Nat} {t : Nat → El} (h : Cub w b s t) : w.cell? ⟨b, 0, none⟩ = some (.int .i64 (s : Int)) := World.rowIs.cell h (by omega)
theorem Cub.c0 {w : World} {b s : Nat} {t : Nat → El} (h : Cub w b s t) {k : Nat} (hk : k < 64) : w.cell? ⟨b, 1 + k * 2, none⟩ = some (.int .i64 (t k).v.1) := by rw [World.rowIs.cell h (by omega), cv_a]
theorem Cub.c1 {w : World} {b s : Nat} {t : Nat → El} (h : Cub w b s t) {k : Nat} (hk : k < 64) : w.cell? ⟨b, 1 + k * 2 + 1, none⟩ = some (.int .i64 (t k).v.2) := by rw [World.rowIs.cell h (by omega), cv_b]
theorem Cub.fz {w : World} {b s : Nat} {t : Nat → El} (h : Cub w b s t) (o : Nat) : w.frozen? ⟨b, o, none⟩ = false := World.rowIs.frozen h o
theorem Cub.congr {w : World} {b s : Nat} {t u : Nat → El} (h : Cub w b s t) (e : ∀ i, i < 64 → t i = u i) : Cub w b s u :=
  World.rowIs.congr h (fun i hi => by
    unfold cv
    by_cases h0 : i = 0
    · rw [if_pos h0, if_pos h0]
    · rw [if_neg h0, if_neg h0, e (i / 2 - 1) (by omega)]
      by_cases h1 : i % 2 = 1
      · rw [if_pos h1, if_pos h1, e (i / 2) (by omega)]
      · rw [if_neg h1, if_neg h1])
theorem Cub.set {w : World} {b s : Nat} {t : Nat → El} (h : Cub w b s t) (k : Nat) (x : El) : Cub ((w.setCell ⟨b, 1 + k * 2, none⟩ (.int .i64 x.v.1)).setCell ⟨b, 1 + k * 2 + 1, none⟩ (.int .i64 x.v.2)) b s (upE t k x) :=
  World.rowIs.congr (World.rowIs.set (World.rowIs.set h (1 + k * 2) _) (1 + k * 2 + 1) _) (fun i hi => by
    by_cases e1 : i = 1 + k * 2 + 1
    · subst e1; rw [if_pos rfl, cv_b]; unfold upE; rw [if_pos rfl]
    · rw [if_neg e1]
      by_cases e2 : i = 1 + k * 2
      · subst e2; rw [if_pos rfl, cv_a]; unfold upE; rw [if_pos rfl]
      · rw [if_neg e2]
        unfold cv upE
        by_cases h0 : i = 0
        · rw [if_pos h0, if_pos h0]
        · rw [if_neg h0, if_neg h0]
          by_cases h1 : i % 2 = 1
          · rw [if_pos h1, if_pos h1, if_neg (by omega)]
          · rw [if_neg h1, if_neg h1, if_neg (by omega)])
theorem Cub.size {w : World} {b s : Nat} {t : Nat → El} (h : Cub w b s t) (s' : Nat) : Cub (w.setCell ⟨b, 0, none⟩ (.int .i64 (s' : Int))) b s' t :=
  World.rowIs.congr (World.rowIs.set h 0 _) (fun i hi => by
    unfold cv
    by_cases h0 : i = 0
    · rw [if_pos h0, if_pos h0]
    · rw [if_neg h0, if_neg h0, if_neg h0])
theorem Cub.pairs {w : World} {b s : Nat} {t : Nat → El} (h : Cub w b s t) {n : Nat} (hn : n ≤ 64) : PairE w (some ⟨b, 1, none⟩) n t := fun i hi =>
  ⟨b, 1, rfl, h.lt, h.c0 (by omega), h.c1 (by omega)⟩

theorem Cub.other {w : World} {b g s : Nat} {t : Nat → El} (h : Cub w b s t) (hne : b ≠ g) (o o' : Nat) (u v : Value) : Cub ((w.setCell ⟨g, o, none⟩ u).setCell ⟨g, o', none⟩ v) b s t :=
  World.rowIs.setOther (a := ⟨g, o', none⟩) (World.rowIs.setOther (a := ⟨g, o, none⟩) h hne u) hne v
theorem cb_get (s : Nat) (t : Nat → El) : (cb s t)[0]? = some (.int .i64 (s : Int)) := rowA_at 129 (cv s t) 0 (by omega)
theorem cb_set (s s' : Nat) (t : Nat → El) : (cb s t).setIfInBounds 0 (.int .i64 (s' : Int)) = cb s' t := by
  unfold cb
  apply Array.ext_getElem?
  intro i
  rw [Array.getElem?_setIfInBounds]
  by_cases h : i < 129
  · rw [rowA_at _ _ _ h, rowA_at _ _ _ h, rowA_size]
    unfold cv
    by_cases h0 : 0 = i
    · subst h0; simp
    · have h0' : ¬ i = 0 := fun e => h0 e.symm
      simp only [h0, h0', if_false]
  · rw [Array.getElem?_eq_none (by rw [rowA_size]; omega), Array.getElem?_eq_none (by rw [rowA_size]; omega), if_neg (by omega)]

section
variable {ops : Array Oper} {rest : List Oper} {o : Oper} {a : Act} {w : World} {Q : Exit → Act → World → Prop}
/-- A whole table out of its block. -/
theorem wpList_load_cub (x : Operand) (hgd : o.guard = none) (ho : o.op = .load 97 x) (g : Nat) (hx : a.eval x = .pointer (some ⟨g, 0, none⟩)) {s : Nat} {t : Nat → El} (hr : Cub w g s t)
    (h : wpList Tryz.prog ops Q rest (a.put o.dst (.agg (cb s t))) w) : wpList Tryz.prog ops Q (o :: rest) a w :=
  wpList_load_row hgd 97 x ho g hx 97 (cb s t) (0, 0) _ (rowA_of hr) Tryz.underlying97 rfl (by rw [cb, rowA_size]; exact infoC1) h
/-- And into it. -/
theorem wpList_store_cub (x y : Operand) (hgd : o.guard = none) (ho : o.op = .store 97 x y) (g : Nat) {s : Nat} {t : Nat → El} (hx : a.eval x = .pointer (some ⟨g, 0, none⟩)) (hy : a.eval y = .agg (cb s t)) {s0 : Nat} {t0 : Nat → El} (hr : Cub w g s0 t0)
    (h : ∀ w', Cub w' g s t → Chg (fun b => b = g) w w' → wpList Tryz.prog ops Q rest (a.put o.dst undef) w') : wpList Tryz.prog ops Q (o :: rest) a w :=
  wpList_store_all 97 x y hgd ho g 129 (cv s t) hx hy 97 (cv s0 t0) hr infoC1 (fun i _ => cv_one s t i) h
theorem results_cub {fn : Func} {p : Tmp} (h : fn.results = #[.cell p 97]) (tmps : Array Value) (w : World) (g : Nat) (hp : tmps.getD p undef = .pointer (some ⟨g, 0, none⟩)) {s : Nat} {t : Nat → El} (hr : Cub w g s t) : (results fn tmps).run Tryz.prog w = .ok (.agg (cb s t)) w :=
  results_cell_row h tmps w g 97 (cb s t) (0, 0) _ hp (rowA_of hr) Tryz.underlying97 rfl (by rw [cb, rowA_size]; exact infoC1)
/-- A table of no element but a size. -/
theorem wpList_build_cub (x : Operand) (hgd : o.guard = none) (ho : o.op = .build 97 #[(0, x)]) (s : Nat) (hx : a.eval x = .int .i64 (s : Int))
    (h : wpList Tryz.prog ops Q rest (a.put o.dst (.agg (cb s zE))) w) : wpList Tryz.prog ops Q (o :: rest) a w := by
  have e : Tryz.prog.built 97 (#[(0, x)].map fun (i, x) => (i, a.eval x)).toList = some (cb s zE) := by
    simp only [List.map_toArray, List.map_cons, List.map_nil, hx]
    kernel_rfl
  refine wpList_build hgd 97 #[(0, x)] ho (by rw [e]; rfl) ?_
  rw [e]
  exact h
theorem cub_copied (s n : Nat) (t u : Nat → El) (hn : n ≤ 64) (i : Nat) (hi : i < 129) : ((cb s u).toList.take 1 ++ ((List.range (n * 2)).map (pf (cA t) (cB t)) ++ (cb s u).toList.drop (1 + n * 2)))[i]? = some (cv s (fitE t n u) i) := by
  have e0 : (cb s u).toList = (List.range 129).map (cv s u) := by simp [cb, rowA]
  rw [e0]
  by_cases h0 : i < 1
  · obtain rfl : i = 0 := by omega
    rfl
  · rw [List.getElem?_append_right (by simp; omega)]
    have el : (List.take 1 ((List.range 129).map (cv s u))).length = 1 := rfl
    rw [el]
    by_cases h1 : i - 1 < n * 2
    · rw [List.getElem?_append_left (by simpa using h1), List.getElem?_map, List.getElem?_range h1]
      simp only [Option.map_some, Option.some.injEq]
      unfold pf cA cB cv fitE
      rw [if_neg (show ¬ i = 0 by omega)]
      by_cases h2 : i % 2 = 1
      · rw [if_pos (show (i - 1) % 2 = 0 by omega), if_pos h2, if_pos (by omega), show (i - 1) / 2 = i / 2 by omega]
      · rw [if_neg (show ¬ (i - 1) % 2 = 0 by omega), if_neg h2, if_pos (by omega), show (i - 1) / 2 = i / 2 - 1 by omega]
    · rw [List.getElem?_append_right (by simp; omega), List.getElem?_drop]
      simp only [List.length_map, List.length_range]
      rw [show 1 + n * 2 + (i - 1 - n * 2) = i by omega, List.getElem?_map, List.getElem?_range hi]
      simp only [Option.map_some, Option.some.injEq]
      unfold cv fitE
      rw [if_neg (show ¬ i = 0 by omega), if_neg (show ¬ i = 0 by omega)]
      by_cases h2 : i % 2 = 1
      · rw [if_pos h2, if_pos h2, if_neg (by omega)]
      · rw [if_neg h2, if_neg h2, if_neg (by omega)]
theorem wpList_copy_cub (d x : Operand) (hgd : o.guard = none) (ho : o.op = .call { callee := .builtin .copy, args := #[d, x], argTypes := #[33, 33] })
    (g m cp : Nat) (c : Option Addr) (n cap : Nat) (hd : a.eval d = .slice (some ⟨g, 1, none⟩) m cp) (hs : a.eval x = .slice c n cap) {s : Nat} {u t : Nat → El} (hr : Cub w g s u) (hv : PairE w c n t) (hl : n ≤ m) (hm : m ≤ 64)
    (h : ∀ w', Cub w' g s (fitE t n u) → Chg (fun b => b = g) w w' → wpList Tryz.prog ops Q rest (a.put o.dst (goInt n)) w') : wpList Tryz.prog ops Q (o :: rest) a w := by
  have hmin : Nat.min n m = n := Nat.min_eq_left hl
  have hu : Tryz.prog.underlying 33 = some (.slice 62) := Tryz.underlying33
  obtain ⟨i, hi, _, hz1, _⟩ := info_parts infoExt
  refine wpList_plain hgd fun K hK => ?_
  by_cases h0 : n = 0
  · subst h0
    have hlc : ∀ (x : Addr), (loadCells x 0).run Tryz.prog w = .ok #[] w := fun x => by simpa using run_loadCells_list (P := Tryz.prog) w x [] (by simp)
    have hrun : (Builtin.copy_ #[33, 33] o.type #[.slice (some ⟨g, 1, none⟩) m cp, .slice c 0 cap]).run Tryz.prog w = .ok (goInt 0) w := by
      cases c <;> simp [Builtin.copy_, run_underlying hu, Builtin.lenOf, Builtin.firstCells, sizeOf, typeInfo, hi, storeCells, hlc]
    unfold Oper.wp
    simp [execOp, ho, resolve, invoke, builtin, hd, hs, hrun, Result.andThen]
    exact hK _ _ (h w (Cub.congr hr (fun i _ => by unfold fitE; rw [if_neg (by omega)])) (Chg.refl _ _))
  · obtain ⟨xb, xo, rfl, hxb, _, _⟩ := hv.at_ (i := 0) (by omega)
    have hcs : ∀ j v, ((List.range (n * 2)).map (pf (cA t) (cB t)))[j]? = some v → w.cell? ((⟨xb, xo, none⟩ : Addr).add j) = some v := by
      intro j v hj
      by_cases hjr : j < n * 2
      · rw [List.getElem?_map, List.getElem?_range hjr] at hj
        simp at hj
        subst hj
        rw [Go.WideShapes.add_plain]
        rcases (show j % 2 = 0 ∨ j % 2 = 1 by omega) with q | q
        · rw [show xo + j = xo + j / 2 * 2 by omega, hv.c0 (i := j / 2) (by omega)]
          unfold pf; rw [if_pos q]; rfl
        · rw [show xo + j = xo + j / 2 * 2 + 1 by omega, hv.c1 (i := j / 2) (by omega)]
          unfold pf; rw [if_neg (by omega)]; rfl
      · rw [List.getElem?_eq_none (by simp; omega)] at hj
        cases hj
    have hl := run_loadCells_list (P := Tryz.prog) w ⟨xb, xo, none⟩ _ hcs
    have hst := run_storeCells_at Tryz.prog g 1 97 ((List.range (n * 2)).map (pf (cA t) (cB t))) 0 (cb s u) w (rowA_of hr) (by rw [cb, rowA_size]; simp; omega) (by intro v hv; simp at hv; obtain ⟨j, _, rfl⟩ := hv; rfl)
    have hlen : ((List.range (n * 2)).map (pf (cA t) (cB t))).length = n * 2 := by simp
    rw [hlen] at hl
    have hrun : (Builtin.copy_ #[33, 33] o.type #[.slice (some ⟨g, 1, none⟩) m cp, .slice (some ⟨xb, xo, none⟩) n cap]).run Tryz.prog w = .ok (goInt n) (w.setRow g ((cb s u).toList.take (1 + 0) ++ ((List.range (n * 2)).map (pf (cA t) (cB t))) ++ (cb s u).toList.drop (1 + 0 + n * 2)).toArray) := by
      rw [hlen] at hst
      simp only [Builtin.copy_, run_underlying hu, Builtin.lenOf, Builtin.firstCells, sizeOf, typeInfo, hi, hz1, hmin, Sem.run_bind, Sem.run_pure, Result.andThen_ok]
      simp [run_underlying hu, typeInfo, hi, hz1, hmin, hl, hst]
    unfold Oper.wp
    simp only [execOp, ho, resolve, invoke, builtin, List.map_toArray, List.map_cons, List.map_nil, hd, hs]
    simp [hrun, Result.andThen]
    refine hK _ _ (h _ ?_ ?_)
    · refine ⟨_, setRow_heap w g _ _ 97 _ (rowA_of hr), ?_, fun i hi => ?_⟩
      · simp [cb, rowA_size]; omega
      · rw [List.getElem?_toArray]
        exact cub_copied s n t u (by omega) i hi
    · refine ⟨rfl, rfl, rfl, by simp [World.setRow], fun k hk hp => ?_⟩
      simp only [World.setRow, Array.getElem?_modify]
      rw [if_neg (fun e => hp e.symm)]
end

end Go.Proofs.YtkpohajmcngjcaaGreatDoor

namespace Go.Proofs.YtkpohajmcngjcaaGreatDoor
open Go.ChangeShapes Go.WideShapes Go.ChangeAt Go.RowKit
set_option linter.unusedVariables false
set_option maxRecDepth 100000
set_option linter.unusedSimpArgs false

set_option maxHeartbeats 1000000 in
theorem cubeFrom_any (c : Option Addr) (n cap : Nat) (t : Nat → El) (w : World) (h : Hid (PairE w c n t)) (hn : n ≤ 64) : Calls Tryz.prog 55 #[.slice c n cap] w fun e w' => e = .returned (.agg (cb n (fitE t n zE))) ∧ Chg nob w w' := by
  have hz := (zero_of_info infoQb).1
  go_enter Tryz.func55, Tryz.ntmps55
  go_wp2_with (first
    | ((with_reducible refine wpList_build_cub (.tmp 5) rfl rfl n ?hx ?_); (case hx => rfl))
    | ((with_reducible refine wpList_store_cub (s := n) (t := zE) (.tmp 3) (.tmp 6) rfl rfl (w.heap.size + 1) ?hx ?hy (Cub.at_ (w.alloc (.cells (cb 0 zE) 97)) (w.heap.size + 1) (by simp) 0 zE) ?_); (case hx => rfl); (case hy => rfl); intro W1 r1 g1; have R1 := hik r1; have Z1 := hik (Cub.chg ((Cub.new w 0 zE).keep ((Chg.refl nob _).alloc (.cells (cb 0 zE) 97))) g1 (by omega)); have G1 := hik (Chg.near (((Chg.refl nob w).alloc (.cells (cb 0 zE) 97)).alloc (.cells (cb 0 zE) 97)) g1 (fun i e => by omega)); clear r1 g1)
    | ((with_reducible refine wpList_copy_cub (.tmp 8) (.tmp 9) rfl rfl (w.heap.size + 1) 64 64 c n cap ?hd ?hs R1.out (PairE.keep h.out G1.out) hn (by omega) ?_); (case hd => rfl); (case hs => rfl); intro W2 r2 g2; have R2 := hik r2; have Z2 := hik (Cub.chg Z1.out g2 (by omega)); have G2 := hik (Chg.near G1.out g2 (fun i e => by omega)); clear r2 g2 Z1 G1)
    | ((with_reducible refine wpList_load_cub (.tmp 3) rfl rfl (w.heap.size + 1) ?hx R2.out ?_); (case hx => rfl))
    | ((with_reducible refine wpList_store_cub (s := n) (t := fitE t n zE) (.tmp 2) (.tmp 11) rfl rfl w.heap.size ?hx ?hy Z2.out ?_); (case hx => rfl); (case hy => rfl); intro W3 r3 g3; have R3 := hik r3; have G3 := hik (Chg.near G2.out g3 (fun i e => by omega)); clear r3 g3))
  exact bodyPost_ret (results_cub rfl _ _ w.heap.size rfl R3.out) rfl ⟨rfl, G3.out⟩


end Go.Proofs.YtkpohajmcngjcaaGreatDoor

namespace Go.Proofs.YtkpohajmcngjcaaGreatDoor
open Go.ChangeShapes Go.WideShapes Go.ChangeAt Go.RowKit
set_option linter.unusedVariables false
set_option maxRecDepth 100000
set_option linter.unusedSimpArgs false

set_option maxHeartbeats 1000000 in
theorem onWay_el (a b r : El) (w : World) : Calls Tryz.prog 111 #[.agg #[.int .i64 a.v.1, .int .i64 a.v.2], .agg #[.int .i64 b.v.1, .int .i64 b.v.2], .agg #[.int .i64 r.v.1, .int .i64 r.v.2]] w fun e w' => e = .returned (.agg #[.int .i64 (El.ad a (El.ml r (El.sb b a))).v.1, .int .i64 (El.ad a (El.ml r (El.sb b a))).v.2]) ∧ Chg nob w w' := by
  go_enter Tryz.func111, Tryz.ntmps111
  go_wp2
  have a0 : ((((w.alloc (.cells #[.int .i64 a.v.1, .int .i64 a.v.2] 62)).alloc (.cells #[.int .i64 b.v.1, .int .i64 b.v.2] 62)).alloc (.cells #[.int .i64 r.v.1, .int .i64 r.v.2] 62)).alloc (.cells #[.int .i64 0, .int .i64 0] 62)).cell? ⟨w.heap.size, 0, none⟩ = some (.int .i64 a.v.1) := by go_simp
  have a1 : ((((w.alloc (.cells #[.int .i64 a.v.1, .int .i64 a.v.2] 62)).alloc (.cells #[.int .i64 b.v.1, .int .i64 b.v.2] 62)).alloc (.cells #[.int .i64 r.v.1, .int .i64 r.v.2] 62)).alloc (.cells #[.int .i64 0, .int .i64 0] 62)).cell? ⟨w.heap.size, 1, none⟩ = some (.int .i64 a.v.2) := by go_simp
  have b0 : ((((w.alloc (.cells #[.int .i64 a.v.1, .int .i64 a.v.2] 62)).alloc (.cells #[.int .i64 b.v.1, .int .i64 b.v.2] 62)).alloc (.cells #[.int .i64 r.v.1, .int .i64 r.v.2] 62)).alloc (.cells #[.int .i64 0, .int .i64 0] 62)).cell? ⟨w.heap.size + 1, 0, none⟩ = some (.int .i64 b.v.1) := by go_simp
  have b1 : ((((w.alloc (.cells #[.int .i64 a.v.1, .int .i64 a.v.2] 62)).alloc (.cells #[.int .i64 b.v.1, .int .i64 b.v.2] 62)).alloc (.cells #[.int .i64 r.v.1, .int .i64 r.v.2] 62)).alloc (.cells #[.int .i64 0, .int .i64 0] 62)).cell? ⟨w.heap.size + 1, 1, none⟩ = some (.int .i64 b.v.2) := by go_simp
  have r0 : ((((w.alloc (.cells #[.int .i64 a.v.1, .int .i64 a.v.2] 62)).alloc (.cells #[.int .i64 b.v.1, .int .i64 b.v.2] 62)).alloc (.cells #[.int .i64 r.v.1, .int .i64 r.v.2] 62)).alloc (.cells #[.int .i64 0, .int .i64 0] 62)).cell? ⟨w.heap.size + 1 + 1, 0, none⟩ = some (.int .i64 r.v.1) := by go_simp
  have r1 : ((((w.alloc (.cells #[.int .i64 a.v.1, .int .i64 a.v.2] 62)).alloc (.cells #[.int .i64 b.v.1, .int .i64 b.v.2] 62)).alloc (.cells #[.int .i64 r.v.1, .int .i64 r.v.2] 62)).alloc (.cells #[.int .i64 0, .int .i64 0] 62)).cell? ⟨w.heap.size + 1 + 1, 1, none⟩ = some (.int .i64 r.v.2) := by go_simp
  have R0 : Hid (((((w.alloc (.cells #[.int .i64 a.v.1, .int .i64 a.v.2] 62)).alloc (.cells #[.int .i64 b.v.1, .int .i64 b.v.2] 62)).alloc (.cells #[.int .i64 r.v.1, .int .i64 r.v.2] 62)).alloc (.cells #[.int .i64 0, .int .i64 0] 62)).rowIs (w.heap.size + 1 + 1 + 1) 62 2 (pv2 (.int .i64 0) (.int .i64 0))) := hik (by simpa using row2_new (((w.alloc (.cells #[.int .i64 a.v.1, .int .i64 a.v.2] 62)).alloc (.cells #[.int .i64 b.v.1, .int .i64 b.v.2] 62)).alloc (.cells #[.int .i64 r.v.1, .int .i64 r.v.2] 62)) (.int .i64 0) (.int .i64 0) 62)
  have KW := hik ((Chg.refl nob ((((w.alloc (.cells #[.int .i64 a.v.1, .int .i64 a.v.2] 62)).alloc (.cells #[.int .i64 b.v.1, .int .i64 b.v.2] 62)).alloc (.cells #[.int .i64 r.v.1, .int .i64 r.v.2] 62)).alloc (.cells #[.int .i64 0, .int .i64 0] 62))).drew1)
  have SA := hik (fun (WW : World) (kW : Chg nob ((((w.alloc (.cells #[.int .i64 a.v.1, .int .i64 a.v.2] 62)).alloc (.cells #[.int .i64 b.v.1, .int .i64 b.v.2] 62)).alloc (.cells #[.int .i64 r.v.1, .int .i64 r.v.2] 62)).alloc (.cells #[.int .i64 0, .int .i64 0] 62)) WW) => (show (WW.cell? ⟨w.heap.size, 0, none⟩ = some (.int .i64 a.v.1) ∧ WW.cell? ⟨w.heap.size, 1, none⟩ = some (.int .i64 a.v.2) ∧ WW.cell? ⟨w.heap.size + 1, 0, none⟩ = some (.int .i64 b.v.1) ∧ WW.cell? ⟨w.heap.size + 1, 1, none⟩ = some (.int .i64 b.v.2) ∧ WW.cell? ⟨w.heap.size + 1 + 1, 0, none⟩ = some (.int .i64 r.v.1) ∧ WW.cell? ⟨w.heap.size + 1 + 1, 1, none⟩ = some (.int .i64 r.v.2)) from ⟨kW.see a0, kW.see a1, kW.see b0, kW.see b1, kW.see r0, kW.see r1⟩))
  refine wp_region_held_drew (S := fun w' => w'.cell? ⟨w.heap.size, 0, none⟩ = some (.int .i64 a.v.1) ∧ w'.cell? ⟨w.heap.size, 1, none⟩ = some (.int .i64 a.v.2) ∧ w'.cell? ⟨w.heap.size + 1, 0, none⟩ = some (.int .i64 b.v.1) ∧ w'.cell? ⟨w.heap.size + 1, 1, none⟩ = some (.int .i64 b.v.2) ∧ w'.cell? ⟨w.heap.size + 1 + 1, 0, none⟩ = some (.int .i64 r.v.1) ∧ w'.cell? ⟨w.heap.size + 1 + 1, 1, none⟩ = some (.int .i64 r.v.2)) (by kernel_rfl) ⟨a0, a1, b0, b1, r0, r1⟩ (fun hHeld => ?_)
  refine wpAnyH_take (i := 0) (v := ?_) rfl (by kernel_rfl) (by kernel_rfl) (by kernel_rfl) (fun _ _ _ h => h) (Or.inl ⟨by rfl, ?_⟩) (by assumption) ?_
  rotate_left 1
  · (intro w' hSw; (try dsimp only at hSw); go_simp; try with_reducible rfl)
  try simp only [Act.put, List.setIfInBounds_toArray, List.set_cons_zero, List.set_cons_succ, List.getElem_toArray, List.getElem_cons_zero, List.getElem_cons_succ]
  refine wpAnyH_take (i := 1) (v := ?_) rfl (by kernel_rfl) (by kernel_rfl) (by kernel_rfl) (fun _ _ _ h => h) (Or.inl ⟨by rfl, ?_⟩) (by assumption) ?_
  rotate_left 1
  · (intro w' hSw; (try dsimp only at hSw); go_simp; try with_reducible rfl)
  try simp only [Act.put, List.setIfInBounds_toArray, List.set_cons_zero, List.set_cons_succ, List.getElem_toArray, List.getElem_cons_zero, List.getElem_cons_succ]
  refine wpAnyH_take (i := 2) (v := ?_) rfl (by kernel_rfl) (by kernel_rfl) (by kernel_rfl) (fun _ _ _ h => h) (Or.inl ⟨by rfl, ?_⟩) (by assumption) ?_
  rotate_left 1
  · (intro w' hSw; (try dsimp only at hSw); go_simp; try with_reducible rfl)
  try simp only [Act.put, List.setIfInBounds_toArray, List.set_cons_zero, List.set_cons_succ, List.getElem_toArray, List.getElem_cons_zero, List.getElem_cons_succ]
  refine wpAnyH_take (i := 3) (v := ?_) rfl (by kernel_rfl) (by kernel_rfl) (by kernel_rfl) (fun _ _ _ h => h) (Or.inl ⟨by rfl, ?_⟩) (by assumption) ?_
  rotate_left 1
  · (intro w' hSw; (try dsimp only at hSw); go_simp; try with_reducible rfl)
  try simp only [Act.put, List.setIfInBounds_toArray, List.set_cons_zero, List.set_cons_succ, List.getElem_toArray, List.getElem_cons_zero, List.getElem_cons_succ]
  refine wpAnyH_ready (rs := [4]) (by kernel_rfl) (by simp) ?_
  refine AllReadyH.cons rfl (fun K hK => ?_) AllReadyH.nil
  refine stepL_callN 98 #[.tmp 9, .tmp 10] #[62, 62] (by rfl) (by rfl) #[.agg #[.int .i64 b.v.1, .int .i64 b.v.2], .agg #[.int .i64 a.v.1, .int .i64 a.v.2]] (by simp only [List.map_toArray, List.map_cons, List.map_nil] <;> rfl) (run_go Tryz.func98 (by kernel_rfl) (by kernel_rfl) _ _) (sb_el b a _) ?_
  rintro e U1 ⟨he, kk⟩
  refine ⟨_, he, ?_⟩
  replace KW := hik (KW.out.trans kk)
  refine hK.out _ _ (SA.out _ KW.out) (fun hHeld => ?_)
  clear hK K
  try simp only [Act.put, List.setIfInBounds_toArray, List.set_cons_zero, List.set_cons_succ, List.getElem_toArray, List.getElem_cons_zero, List.getElem_cons_succ]
  clear he kk
  refine wpAnyH_ready (rs := [5]) (by kernel_rfl) (by simp) ?_
  refine AllReadyH.cons rfl (fun K hK => ?_) AllReadyH.nil
  refine stepL_callN 60 #[.tmp 8, .tmp 11] #[62, 62] (by rfl) (by rfl) #[.agg #[.int .i64 r.v.1, .int .i64 r.v.2], .agg #[.int .i64 (El.sb b a).v.1, .int .i64 (El.sb b a).v.2]] (by simp only [List.map_toArray, List.map_cons, List.map_nil] <;> rfl) (run_go Tryz.func60 (by kernel_rfl) (by kernel_rfl) _ _) (ml_el r (El.sb b a) _) ?_
  rintro e U2 ⟨he, kk⟩
  refine ⟨_, he, ?_⟩
  replace KW := hik (KW.out.trans kk)
  refine hK.out _ _ (SA.out _ KW.out) (fun hHeld => ?_)
  clear hK K
  try simp only [Act.put, List.setIfInBounds_toArray, List.set_cons_zero, List.set_cons_succ, List.getElem_toArray, List.getElem_cons_zero, List.getElem_cons_succ]
  clear he kk
  refine wpAnyH_ready (rs := [6]) (by kernel_rfl) (by simp) ?_
  refine AllReadyH.cons rfl (fun K hK => ?_) AllReadyH.nil
  refine stepL_callN 61 #[.tmp 7, .tmp 12] #[62, 62] (by rfl) (by rfl) #[.agg #[.int .i64 a.v.1, .int .i64 a.v.2], .agg #[.int .i64 (El.ml r (El.sb b a)).v.1, .int .i64 (El.ml r (El.sb b a)).v.2]] (by simp only [List.map_toArray, List.map_cons, List.map_nil] <;> rfl) (run_go Tryz.func61 (by kernel_rfl) (by kernel_rfl) _ _) (ad_el a (El.ml r (El.sb b a)) _) ?_
  rintro e U3 ⟨he, kk⟩
  refine ⟨_, he, ?_⟩
  replace KW := hik (KW.out.trans kk)
  refine hK.out _ _ (SA.out _ KW.out) (fun hHeld => ?_)
  clear hK K
  try simp only [Act.put, List.setIfInBounds_toArray, List.set_cons_zero, List.set_cons_succ, List.getElem_toArray, List.getElem_cons_zero, List.getElem_cons_succ]
  clear he kk
  refine wpAnyH_ready (rs := [7]) (by kernel_rfl) (by simp) ?_
  refine AllReadyH.cons rfl (fun K hK => ?_) AllReadyH.nil
  have R1 := hik (rowIs_keep R0.out KW.out)
  have l1 : w.heap.size + 1 + 1 + 1 < U3.heap.size := R1.out.lt
  have y0 := R1.out.cell (i := 0) (by omega)
  have y1 := R1.out.cell (i := 1) (by omega)
  have f0 := R1.out.frozen 0
  have f1 := R1.out.frozen 1
  simp only [List.getElem_toArray, List.getElem_cons_zero, List.getElem_cons_succ]
  go_simp
  refine hK.out _ _ ⟨look_two (by omega) (SA.out _ KW.out).1 0 1 _ _, look_two (by omega) (SA.out _ KW.out).2.1 0 1 _ _, look_two (by omega) (SA.out _ KW.out).2.2.1 0 1 _ _, look_two (by omega) (SA.out _ KW.out).2.2.2.1 0 1 _ _, look_two (by omega) (SA.out _ KW.out).2.2.2.2.1 0 1 _ _, look_two (by omega) (SA.out _ KW.out).2.2.2.2.2 0 1 _ _⟩ (fun hHeld => ?_)
  clear hK K
  try simp only [Act.put, List.setIfInBounds_toArray, List.set_cons_zero, List.set_cons_succ, List.getElem_toArray, List.getElem_cons_zero, List.getElem_cons_succ]
  refine wpAnyH_done (by kernel_rfl) ?_ _
  go_wp2
  have R2 := hik (row2_set R1.out (.int .i64 (El.ad a (El.ml r (El.sb b a))).v.1) (.int .i64 (El.ad a (El.ml r (El.sb b a))).v.2))
  have u0 : ((U3.setCell ⟨w.heap.size + 1 + 1 + 1, 0, none⟩ (.int .i64 (El.ad a (El.ml r (El.sb b a))).v.1)).setCell ⟨w.heap.size + 1 + 1 + 1, 1, none⟩ (.int .i64 (El.ad a (El.ml r (El.sb b a))).v.2)).cell? ⟨w.heap.size + 1 + 1 + 1, 0, none⟩ = some (.int .i64 (El.ad a (El.ml r (El.sb b a))).v.1) := R2.out.cell (by omega)
  have u1 : ((U3.setCell ⟨w.heap.size + 1 + 1 + 1, 0, none⟩ (.int .i64 (El.ad a (El.ml r (El.sb b a))).v.1)).setCell ⟨w.heap.size + 1 + 1 + 1, 1, none⟩ (.int .i64 (El.ad a (El.ml r (El.sb b a))).v.2)).cell? ⟨w.heap.size + 1 + 1 + 1, 1, none⟩ = some (.int .i64 (El.ad a (El.ml r (El.sb b a))).v.2) := R2.out.cell (by omega)
  exact bodyPost_ret (v := .agg #[.int .i64 (El.ad a (El.ml r (El.sb b a))).v.1, .int .i64 (El.ad a (El.ml r (El.sb b a))).v.2]) (by simp [results, Tryz.results111, go_sem, u0, u1]) rfl ⟨rfl, chg2_at ((Chg.alloc (Chg.alloc (Chg.alloc (Chg.alloc (Chg.refl nob w) _) _) _) _).trans KW.out) _ (fun l => absurd l (by omega)) _ _ _ _⟩

/-- A table half bound: the first k. -/
def bdE (t : Nat → El) (r : El) (k i : Nat) : El := if i < k then El.fldE t r i else t i
theorem bdE_step (t : Nat → El) (r : El) (k i : Nat) : upE (bdE t r k) k (El.ad (t (2 * k)) (El.ml r (El.sb (t (2 * k + 1)) (t (2 * k))))) i = bdE t r (k + 1) i := by
  unfold upE bdE
  by_cases e : i = k
  · subst e
    rw [if_pos rfl, if_pos (by omega)]; rfl
  · rw [if_neg e]
    by_cases h : i < k
    · rw [if_pos h, if_pos (by omega)]
    · rw [if_neg h, if_neg (by omega)]

set_option maxHeartbeats 2000000 in
theorem bound_any (s : Nat) (t : Nat → El) (r : El) (w : World) (hs : s ≤ 64) : Calls Tryz.prog 95 #[.agg (cb s t), .agg #[.int .i64 r.v.1, .int .i64 r.v.2]] w fun e w' => e = .returned (.agg (cb (s / 2) (bdE t r (s / 2)))) ∧ Chg nob w w' := by
  have hz := (zero_of_info infoQb).1
  obtain ⟨m, hm⟩ : ∃ m, m = s / 2 := ⟨_, rfl⟩
  have hd : (s : Int) / 2 = (m : Int) := by omega
  have hm32 : m ≤ 32 := by omega
  have HM := hik hm
  clear hm
  have hg0 := cb_get s t
  have hg1 := cb_get m t
  have hst := cb_set s m t
  go_enter Tryz.func95, Tryz.ntmps95
  go_wp2
  clear hg0 hg1 hst hz hd
  go_loopw [12] (fun i W => ∃ k : Nat, k ≤ m ∧ i = .int .i64 k ∧ Hid (Cub W w.heap.size m (bdE t r k)) ∧ Hid (ElB W (w.heap.size + 1) r) ∧ Hid (Cub W (w.heap.size + 1 + 1) 0 zE) ∧ Hid (Chg nob w W)) (fun i _ => m - (intOf i).toNat)
  case atStart =>
    refine ⟨0, Nat.zero_le _, rfl, hik ?_, hik ?_, hik ?_, hik ((((Chg.refl _ _).alloc _).alloc _).alloc _)⟩
    · exact ((Cub.new w m (bdE t r 0)).keep ((Chg.refl nob _).alloc _)).keep ((Chg.refl nob _).alloc _)
    · exact (by simpa using ElB.new (w.alloc (.cells (cb m t) 97)) r : ElB _ (w.heap.size + 1) r).keep ((Chg.refl nob _).alloc _)
    · exact Cub.at_ _ _ (by simp) 0 zE
  case round =>
    obtain ⟨k, hk, rfl, HS, HR, HZ, HG⟩ := hrel
    rename World => wi
    by_cases hlt : k < m
    · have hk1 : (k : Int) < (m : Int) := by omega
      obtain ⟨q, hq⟩ : ∃ q, q = 2 * k := ⟨_, rfl⟩
      have HQ := hik hq
      have hq64 : q + 1 < 64 := by omega
      have hwq : IntKind.i64.wrap (2 * (k : Int)) = (q : Int) := by rw [IntKind.wrap_i64]; omega
      obtain ⟨p, hp⟩ : ∃ p, p = q + 1 := ⟨_, rfl⟩
      have HP := hik hp
      have hwp : IntKind.i64.wrap ((q : Int) + 1) = (p : Int) := by rw [IntKind.wrap_i64]; omega
      have hp0 : (0 : Int) ≤ (p : Int) := by omega
      have hp1 : (p : Int) < 64 := by omega
      have hq0 : (0 : Int) ≤ (q : Int) := by omega
      have hq1 : (q : Int) < 64 := by omega
      have hk64 : (k : Int) < 64 := by omega
      have hk0 : (0 : Int) ≤ (k : Int) := by omega
      clear hq hp
      have eq0 : bdE t r k q = t q := by rw [HQ.out]; unfold bdE; rw [if_neg (by omega)]
      have ep0 : bdE t r k p = t p := by rw [HP.out, HQ.out]; unfold bdE; rw [if_neg (by omega)]
      have x0 : wi.cell? ⟨w.heap.size, 1 + q * 2, none⟩ = some (.int .i64 (t q).v.1) := by rw [← eq0]; exact HS.out.c0 (by omega)
      have x1 : wi.cell? ⟨w.heap.size, 1 + q * 2 + 1, none⟩ = some (.int .i64 (t q).v.2) := by rw [← eq0]; exact HS.out.c1 (by omega)
      have y0 : wi.cell? ⟨w.heap.size, 1 + p * 2, none⟩ = some (.int .i64 (t p).v.1) := by rw [← ep0]; exact HS.out.c0 (by omega)
      have y1 : wi.cell? ⟨w.heap.size, 1 + p * 2 + 1, none⟩ = some (.int .i64 (t p).v.2) := by rw [← ep0]; exact HS.out.c1 (by omega)
      have r0 := HR.out.c0
      have r1 := HR.out.c1
      clear eq0 ep0
      go_wp2
      have KW := hik ((Chg.refl nob wi).drew1)
      have SA := hik (fun (WW : World) (kW : Chg nob wi WW) => (show (WW.cell? ⟨w.heap.size, 1 + q * 2, none⟩ = some (.int .i64 (t q).v.1) ∧ WW.cell? ⟨w.heap.size, 1 + q * 2 + 1, none⟩ = some (.int .i64 (t q).v.2) ∧ WW.cell? ⟨w.heap.size, 1 + p * 2, none⟩ = some (.int .i64 (t p).v.1) ∧ WW.cell? ⟨w.heap.size, 1 + p * 2 + 1, none⟩ = some (.int .i64 (t p).v.2) ∧ WW.cell? ⟨w.heap.size + 1, 0, none⟩ = some (.int .i64 r.v.1) ∧ WW.cell? ⟨w.heap.size + 1, 1, none⟩ = some (.int .i64 r.v.2)) from ⟨kW.see x0, kW.see x1, kW.see y0, kW.see y1, kW.see r0, kW.see r1⟩))
      refine wp_regionL (L := 16) (S := fun w' => w'.cell? ⟨w.heap.size, 1 + q * 2, none⟩ = some (.int .i64 (t q).v.1) ∧ w'.cell? ⟨w.heap.size, 1 + q * 2 + 1, none⟩ = some (.int .i64 (t q).v.2) ∧ w'.cell? ⟨w.heap.size, 1 + p * 2, none⟩ = some (.int .i64 (t p).v.1) ∧ w'.cell? ⟨w.heap.size, 1 + p * 2 + 1, none⟩ = some (.int .i64 (t p).v.2) ∧ w'.cell? ⟨w.heap.size + 1, 0, none⟩ = some (.int .i64 r.v.1) ∧ w'.cell? ⟨w.heap.size + 1, 1, none⟩ = some (.int .i64 r.v.2)) (by kernel_rfl) ⟨x0, x1, y0, y1, r0, r1⟩ (fun hHeld => ?_)
      refine wpAnyL_take (i := 0) (v := ?_) rfl (by kernel_rfl) (by kernel_rfl) (by kernel_rfl) (fun _ _ _ h => h) (by rfl) (by kernel_rfl) (by kernel_rfl) (Or.inl ⟨by rfl, ?_⟩) (by assumption) ?_
      rotate_left 1
      · (intro w' hSw; (try dsimp only at hSw); go_simp; try with_reducible rfl)
      try simp only [Act.put, List.setIfInBounds_toArray, List.set_cons_zero, List.set_cons_succ, List.getElem_toArray, List.getElem_cons_zero, List.getElem_cons_succ]
      refine wpAnyL_take (i := 1) (v := ?_) rfl (by kernel_rfl) (by kernel_rfl) (by kernel_rfl) (fun _ _ _ h => h) (by rfl) (by kernel_rfl) (by kernel_rfl) (Or.inl ⟨by rfl, ?_⟩) (by assumption) ?_
      rotate_left 1
      · (intro w' hSw; (try dsimp only at hSw); go_simp; try with_reducible rfl)
      try simp only [Act.put, List.setIfInBounds_toArray, List.set_cons_zero, List.set_cons_succ, List.getElem_toArray, List.getElem_cons_zero, List.getElem_cons_succ]
      refine wpAnyL_take (i := 2) (v := .int .i64 (q : Int)) rfl (by kernel_rfl) (by kernel_rfl) (by kernel_rfl) (fun _ _ _ h => h) (by rfl) (by kernel_rfl) (by kernel_rfl) (Or.inl ⟨by rfl, ?_⟩) (by assumption) ?_
      · (intro w' hSw; (try dsimp only at hSw); go_simp; first | done | exact hwq)
      try simp only [Act.put, List.setIfInBounds_toArray, List.set_cons_zero, List.set_cons_succ, List.getElem_toArray, List.getElem_cons_zero, List.getElem_cons_succ]
      refine wpAnyL_take (i := 3) (v := ?_) rfl (by kernel_rfl) (by kernel_rfl) (by kernel_rfl) (fun _ _ _ h => h) (by rfl) (by kernel_rfl) (by kernel_rfl) (Or.inl ⟨by rfl, ?_⟩) (by assumption) ?_
      rotate_left 1
      · (intro w' hSw; (try dsimp only at hSw); go_simp; try with_reducible rfl)
      try simp only [Act.put, List.setIfInBounds_toArray, List.set_cons_zero, List.set_cons_succ, List.getElem_toArray, List.getElem_cons_zero, List.getElem_cons_succ]
      refine wpAnyL_take (i := 4) (v := ?_) rfl (by kernel_rfl) (by kernel_rfl) (by kernel_rfl) (fun _ _ _ h => h) (by rfl) (by kernel_rfl) (by kernel_rfl) (Or.inl ⟨by rfl, ?_⟩) (by assumption) ?_
      rotate_left 1
      · (intro w' hSw; (try dsimp only at hSw); go_simp; try with_reducible rfl)
      try simp only [Act.put, List.setIfInBounds_toArray, List.set_cons_zero, List.set_cons_succ, List.getElem_toArray, List.getElem_cons_zero, List.getElem_cons_succ]
      refine wpAnyL_take (i := 5) (v := ?_) rfl (by kernel_rfl) (by kernel_rfl) (by kernel_rfl) (fun _ _ _ h => h) (by rfl) (by kernel_rfl) (by kernel_rfl) (Or.inl ⟨by rfl, ?_⟩) (by assumption) ?_
      rotate_left 1
      · (intro w' hSw; (try dsimp only at hSw); go_simp; try with_reducible rfl)
      try simp only [Act.put, List.setIfInBounds_toArray, List.set_cons_zero, List.set_cons_succ, List.getElem_toArray, List.getElem_cons_zero, List.getElem_cons_succ]
      refine wpAnyL_take (i := 6) (v := ?_) rfl (by kernel_rfl) (by kernel_rfl) (by kernel_rfl) (fun _ _ _ h => h) (by rfl) (by kernel_rfl) (by kernel_rfl) (Or.inl ⟨by rfl, ?_⟩) (by assumption) ?_
      rotate_left 1
      · (intro w' hSw; (try dsimp only at hSw); go_simp; try with_reducible rfl)
      try simp only [Act.put, List.setIfInBounds_toArray, List.set_cons_zero, List.set_cons_succ, List.getElem_toArray, List.getElem_cons_zero, List.getElem_cons_succ]
      refine wpAnyL_take (i := 7) (v := .int .i64 (q : Int)) rfl (by kernel_rfl) (by kernel_rfl) (by kernel_rfl) (fun _ _ _ h => h) (by rfl) (by kernel_rfl) (by kernel_rfl) (Or.inl ⟨by rfl, ?_⟩) (by assumption) ?_
      · (intro w' hSw; (try dsimp only at hSw); go_simp; first | done | exact hwq)
      try simp only [Act.put, List.setIfInBounds_toArray, List.set_cons_zero, List.set_cons_succ, List.getElem_toArray, List.getElem_cons_zero, List.getElem_cons_succ]
      refine wpAnyL_take (i := 8) (v := .int .i64 (p : Int)) rfl (by kernel_rfl) (by kernel_rfl) (by kernel_rfl) (fun _ _ _ h => h) (by rfl) (by kernel_rfl) (by kernel_rfl) (Or.inl ⟨by rfl, ?_⟩) (by assumption) ?_
      · (intro w' hSw; (try dsimp only at hSw); go_simp; first | done | exact hwp)
      try simp only [Act.put, List.setIfInBounds_toArray, List.set_cons_zero, List.set_cons_succ, List.getElem_toArray, List.getElem_cons_zero, List.getElem_cons_succ]
      refine wpAnyL_take (i := 9) (v := ?_) rfl (by kernel_rfl) (by kernel_rfl) (by kernel_rfl) (fun _ _ _ h => h) (by rfl) (by kernel_rfl) (by kernel_rfl) (Or.inl ⟨by rfl, ?_⟩) (by assumption) ?_
      rotate_left 1
      · (intro w' hSw; (try dsimp only at hSw); go_simp; try with_reducible rfl)
      try simp only [Act.put, List.setIfInBounds_toArray, List.set_cons_zero, List.set_cons_succ, List.getElem_toArray, List.getElem_cons_zero, List.getElem_cons_succ]
      refine wpAnyL_take (i := 10) (v := ?_) rfl (by kernel_rfl) (by kernel_rfl) (by kernel_rfl) (fun _ _ _ h => h) (by rfl) (by kernel_rfl) (by kernel_rfl) (Or.inl ⟨by rfl, ?_⟩) (by assumption) ?_
      rotate_left 1
      · (intro w' hSw; (try dsimp only at hSw); go_simp; try with_reducible rfl)
      try simp only [Act.put, List.setIfInBounds_toArray, List.set_cons_zero, List.set_cons_succ, List.getElem_toArray, List.getElem_cons_zero, List.getElem_cons_succ]
      refine wpAnyL_take (i := 11) (v := ?_) rfl (by kernel_rfl) (by kernel_rfl) (by kernel_rfl) (fun _ _ _ h => h) (by rfl) (by kernel_rfl) (by kernel_rfl) (Or.inl ⟨by rfl, ?_⟩) (by assumption) ?_
      rotate_left 1
      · (intro w' hSw; (try dsimp only at hSw); go_simp; try with_reducible rfl)
      try simp only [Act.put, List.setIfInBounds_toArray, List.set_cons_zero, List.set_cons_succ, List.getElem_toArray, List.getElem_cons_zero, List.getElem_cons_succ]
      refine wpAnyL_take (i := 12) (v := ?_) rfl (by kernel_rfl) (by kernel_rfl) (by kernel_rfl) (fun _ _ _ h => h) (by rfl) (by kernel_rfl) (by kernel_rfl) (Or.inl ⟨by rfl, ?_⟩) (by assumption) ?_
      rotate_left 1
      · (intro w' hSw; (try dsimp only at hSw); go_simp; try with_reducible rfl)
      try simp only [Act.put, List.setIfInBounds_toArray, List.set_cons_zero, List.set_cons_succ, List.getElem_toArray, List.getElem_cons_zero, List.getElem_cons_succ]
      refine wpAnyL_take0 (i := 14) (v := ?_) rfl (by kernel_rfl) (by kernel_rfl) (by kernel_rfl) (fun _ _ _ h => h) (by rfl) (Or.inl ⟨by rfl, ?_⟩) (by assumption) ?_
      rotate_left 1
      · (intro w' hSw; (try dsimp only at hSw); go_simp; try with_reducible rfl)
      try simp only [Act.put, List.setIfInBounds_toArray, List.set_cons_zero, List.set_cons_succ, List.getElem_toArray, List.getElem_cons_zero, List.getElem_cons_succ]
      refine wpAnyL_ready (rs := [13]) (by kernel_rfl) (by simp) ?_
      refine AllReadyL.cons rfl (fun K hK => ?_) AllReadyL.nil
      refine stepL_callN 111 #[.tmp 20, .tmp 26, .tmp 27] #[62, 62, 62] (by rfl) (by rfl) #[.agg #[.int .i64 (t q).v.1, .int .i64 (t q).v.2], .agg #[.int .i64 (t p).v.1, .int .i64 (t p).v.2], .agg #[.int .i64 r.v.1, .int .i64 r.v.2]] (by simp only [List.map_toArray, List.map_cons, List.map_nil] <;> rfl) (run_go Tryz.func111 (by kernel_rfl) (by kernel_rfl) _ _) (onWay_el (t q) (t p) r _) ?_
      rintro e U1 ⟨he, kk⟩
      refine ⟨_, he, ?_⟩
      replace KW := hik (KW.out.trans kk)
      refine hK.out _ _ (SA.out _ KW.out) (fun hHeld => ?_)
      clear hK K
      try simp only [Act.put, List.setIfInBounds_toArray, List.set_cons_zero, List.set_cons_succ, List.getElem_toArray, List.getElem_cons_zero, List.getElem_cons_succ]
      clear he kk
      refine wpAnyL_take (i := 15) (v := ?_) rfl (by kernel_rfl) (by kernel_rfl) (by kernel_rfl) (fun _ _ _ h => h) (by rfl) (by kernel_rfl) (by kernel_rfl) (Or.inl ⟨by rfl, ?_⟩) (by assumption) ?_
      rotate_left 1
      · (intro w' hSw; (try dsimp only at hSw); go_simp; try with_reducible rfl)
      try simp only [Act.put, List.setIfInBounds_toArray, List.set_cons_zero, List.set_cons_succ, List.getElem_toArray, List.getElem_cons_zero, List.getElem_cons_succ]
      refine wpAnyL_ready (rs := [16]) (by kernel_rfl) (by simp) ?_
      refine AllReadyL.last rfl (by kernel_rfl) (fun K hK => ?_)
      have SN := hik (HS.out.keep KW.out)
      have g0 := SN.out.c0 (k := k) (by omega)
      have g1 := SN.out.c1 (k := k) (by omega)
      have f0 := SN.out.fz (1 + k * 2)
      have f1 := SN.out.fz (1 + k * 2 + 1)
      have ln : w.heap.size < U1.heap.size := SN.out.lt
      simp only [List.getElem_toArray, List.getElem_cons_zero, List.getElem_cons_succ]
      go_simp
      refine hK.out _ _ ?_
      clear hK K
      try simp only [Act.put, List.setIfInBounds_toArray, List.set_cons_zero, List.set_cons_succ, List.getElem_toArray, List.getElem_cons_zero, List.getElem_cons_succ]
      clear g0 g1 f0 f1 ln
      refine wpAnyL_done (by kernel_rfl) ?_ _
      have S2 := hik (Cub.congr (u := bdE t r (k + 1)) (SN.out.set k (El.ad (t q) (El.ml r (El.sb (t p) (t q))))) (fun i _ => by rw [HP.out, HQ.out]; exact bdE_step t r k i))
      have R2 := hik (ElB.other (HR.out.keep KW.out) (g := w.heap.size) (by omega) (1 + k * 2) (1 + k * 2 + 1) (.int .i64 (El.ad (t q) (El.ml r (El.sb (t p) (t q)))).v.1) (.int .i64 (El.ad (t q) (El.ml r (El.sb (t p) (t q)))).v.2))
      have Z2 := hik (Cub.other (HZ.out.keep KW.out) (g := w.heap.size) (by omega) (1 + k * 2) (1 + k * 2 + 1) (.int .i64 (El.ad (t q) (El.ml r (El.sb (t p) (t q)))).v.1) (.int .i64 (El.ad (t q) (El.ml r (El.sb (t p) (t q)))).v.2))
      have G2 := hik (chg2_at (HG.out.trans KW.out) w.heap.size (fun l => absurd l (by omega)) (1 + k * 2) (1 + k * 2 + 1) (.int .i64 (El.ad (t q) (El.ml r (El.sb (t p) (t q)))).v.1) (.int .i64 (El.ad (t q) (El.ml r (El.sb (t p) (t q)))).v.2))
      generalize hE : ((U1.setCell ⟨w.heap.size, 1 + k * 2, none⟩ (.int .i64 (El.ad (t q) (El.ml r (El.sb (t p) (t q)))).v.1)).setCell ⟨w.heap.size, 1 + k * 2 + 1, none⟩ (.int .i64 (El.ad (t q) (El.ml r (El.sb (t p) (t q)))).v.2)) = W2 at S2 R2 Z2 G2 ⊢
      clear hE SN KW SA hHeld x0 x1 y0 y1 r0 r1 HS HR HZ HG
      go_wp2
      go_roundw
      case rel => exact ⟨k + 1, by omega, by go_num, S2, R2, Z2, G2⟩
      case measure => simp [intOf]; omega
    · obtain rfl : m = k := by omega
      go_wp2_with (first
        | ((with_reducible refine wpList_load_cub (.tmp 2) rfl rfl w.heap.size ?hx HS.out ?_); (case hx => rfl))
        | ((with_reducible refine wpList_store_cub (s := m) (t := bdE t r m) (.tmp 4) (.tmp 32) rfl rfl (w.heap.size + 1 + 1) ?hx ?hy HZ.out ?_); (case hx => rfl); (case hy => rfl); intro W3 r3 g3; have R3 := hik r3; have G3 := hik (Chg.near HG.out g3 (fun i e => by omega)); clear r3 g3))
      rw [← HM.out]
      exact bodyPost_ret (results_cub rfl _ _ (w.heap.size + 1 + 1) rfl R3.out) rfl ⟨rfl, G3.out⟩

end Go.Proofs.YtkpohajmcngjcaaGreatDoor
