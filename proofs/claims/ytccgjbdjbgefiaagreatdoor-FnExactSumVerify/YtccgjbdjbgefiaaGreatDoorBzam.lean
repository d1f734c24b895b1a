/- Several texts in one: Words on memory: whole arrays by value, out of rows and into rows. No program is named here. · Arrays of eight elements by value: words on memory and laws; numbers as elements. No condition but those that each theorem states. · LineAt's answers, plain: its code and its value. No condition. · What the model's polynomial through values answers: contracts. Conditions: rows that can be read, lengths of at most 2 to the 40. -/
import Derived.Test.YtccgjbdjbgefiaaGreatDoorBzae
import Derived.WalkKit
import Derived.Laws.Rows
import Derived.Laws.Tables
import Derived.Deep.WholeRow
import Derived.Test.YtccgjbdjbgefiaaGreatDoorBzaf
import Derived.Test.YtccgjbdjbgefiaaGreatDoorBzai
import Derived.Laws.CopyRow
import Derived.Laws.CopyOwn
import Derived.Test.YtccgjbdjbgefiaaGreatDoorBzaj
import Derived.Test.YtccgjbdjbgefiaaGreatDoorBzaz
namespace Go.Proofs.YtccgjbdjbgefiaaGreatDoor
open Go.RowKit

/-- n values in an array. -/
def rowA (n : Nat) (f : Nat → Value) : Array Value := ((List.range n).map f).toArray
theorem rowA_size (n : Nat) (f : Nat → Value) : (rowA n f).size = n := by simp [rowA]
theorem rowA_at (n : Nat) (f : Nat → Value) (i : Nat) (h : i < n) : (rowA n f)[i]? = some (f i) := by simp [rowA, h]
theorem rowA_congr {n : Nat} {f g : Nat → Value} (h : ∀ i, i < n → f i = g i) : rowA n f = rowA n g := by
  unfold rowA
  congr 1
  exact List.map_congr_left (fun i hi => h i (by simpa using hi))
theorem rowA_of {w : World} {b : Nat} {t : TypeId} {n : Nat} {f : Nat → Value} (h : w.rowIs b t n f) : w.heap[b]? = some (.cells (rowA n f) t (0, 0)) := by
  obtain ⟨c, hb, hn, hc⟩ := h
  have e : c = rowA n f := by
    apply Array.ext_getElem?
    intro i
    by_cases hi : i < n
    · rw [hc i hi, rowA_at n f i hi]
    · rw [Array.getElem?_eq_none (by omega), Array.getElem?_eq_none (by rw [rowA_size]; omega)]
  rw [hb, e]
theorem rowIs_of {w : World} {b : Nat} {t : TypeId} {n : Nat} {f : Nat → Value} (h : w.heap[b]? = some (.cells (rowA n f) t (0, 0))) : w.rowIs b t n f :=
  ⟨_, h, rowA_size n f, fun i hi => rowA_at n f i hi⟩
theorem rowIs_new (w : World) (n : Nat) (f : Nat → Value) (t : TypeId) : (w.alloc (.cells (rowA n f) t)).rowIs w.heap.size t n f :=
  rowIs_of (heap_alloc_last w _)
theorem rowIs_newOf (w : World) (n : Nat) (f : Nat → Value) (t : TypeId) (c : Array Value) (h : c = rowA n f) : (w.alloc (.cells c t)).rowIs w.heap.size t n f := by
  subst h; exact rowIs_new w n f t
theorem rowIs_at (w : World) (g : Nat) (hg : g = w.heap.size) (n : Nat) (f : Nat → Value) (t : TypeId) (c : Array Value) (h : c = rowA n f) : (w.alloc (.cells c t)).rowIs g t n f := by
  subst hg; exact rowIs_newOf w n f t c h
theorem made_at (w : World) (g : Nat) (hg : g = w.heap.size) (z : Value) (n : Nat) (t : TypeId) : (w.alloc (.cells (madeCells #[z] n) t)).rowIs g t n (fun _ => z) := by
  subst hg; exact World.rowIs_made w z n t

section
variable {P : Program}
/-- A whole array out of its row. -/
theorem wpList_load_all {ops : Array Oper} {rest : List Oper} {o : Oper} {a : Act} {w : World} {Q : Exit → Act → World → Prop} (ty : TypeId) (x : Operand) (hgd : o.guard = none) (ho : o.op = .load ty x)
    (g : Nat) (hx : a.eval x = .pointer (some ⟨g, 0, none⟩)) (n : Nat) (e : TypeId) (f : Nat → Value) (t : TypeId) (hr : w.rowIs g t n f)
    (hu : P.underlying ty = some (.array n e)) (hi : (P.info? ty).map (·.size) = some n)
    (h : wpList P ops Q rest (a.put o.dst (.agg (rowA n f))) w) : wpList P ops Q (o :: rest) a w :=
  wpList_load_row hgd ty x ho g hx t (rowA n f) (0, 0) (.array n e) (rowA_of hr) hu rfl (by rw [rowA_size]; exact hi) h
/-- A whole array into a row. -/
theorem wpList_store_all {ops : Array Oper} {rest : List Oper} {o : Oper} {a : Act} {w : World} {Q : Exit → Act → World → Prop} (ty : TypeId) (x y : Operand) (hgd : o.guard = none) (ho : o.op = .store ty x y)
    (g : Nat) (n : Nat) (f : Nat → Value) (hx : a.eval x = .pointer (some ⟨g, 0, none⟩)) (hy : a.eval y = .agg (rowA n f))
    (t : TypeId) (f0 : Nat → Value) (hr : w.rowIs g t n f0) (hi : (P.info? ty).map (·.size) = some n)
    (h1 : ∀ i, i < n → (f i).oneCell' = true)
    (h : ∀ w', w'.rowIs g t n f → Chg (fun b => b = g) w w' → wpList P ops Q rest (a.put o.dst undef) w') : wpList P ops Q (o :: rest) a w := by
  refine wpList_store_row hgd ty x y ho g (rowA n f) hx hy t (rowA n f0) (rowA_of hr) (by rw [rowA_size]; exact hi) (by rw [rowA_size, rowA_size]) ?_ (h _ ?_ ?_)
  · rw [Array.all_eq_true_iff_forall_mem]
    intro v hv
    simp only [rowA, List.mem_toArray, List.mem_map, List.mem_range] at hv
    obtain ⟨i, hi, rfl⟩ := hv
    exact h1 i hi
  · apply rowIs_of
    have := rowA_of hr
    simp [World.setRow, Array.getElem?_modify, this]
  · refine ⟨rfl, rfl, rfl, by simp [World.setRow], fun k hk hp => ?_⟩
    simp only [World.setRow, Array.getElem?_modify]
    rw [if_neg (fun e => hp e.symm)]
/-- What is handed back by value. -/
theorem results_all {fn : Func} {p : Tmp} {ty : TypeId} (h : fn.results = #[.cell p ty]) (tmps : Array Value) (w : World) (g : Nat) (hp : tmps.getD p undef = .pointer (some ⟨g, 0, none⟩)) (n : Nat) (e : TypeId) (f : Nat → Value) (t : TypeId) (hr : w.rowIs g t n f)
    (hu : P.underlying ty = some (.array n e)) (hi : (P.info? ty).map (·.size) = some n) : (results fn tmps).run P w = .ok (.agg (rowA n f)) w :=
  results_cell_row h tmps w g t (rowA n f) (0, 0) (.array n e) hp (rowA_of hr) hu rfl (by rw [rowA_size]; exact hi)
end

end Go.Proofs.YtccgjbdjbgefiaaGreatDoor

namespace Go.Proofs.YtccgjbdjbgefiaaGreatDoor
open Go.ChangeShapes Go.WideShapes Go.ChangeAt Go.RowKit
set_option linter.unusedVariables false
set_option maxRecDepth 100000
set_option linter.unusedSimpArgs false

theorem nb_v {k : Nat} (h : k < 100) : (El.nb k).v.1 = (k : Int) := by simp only [El.nb]; omega
theorem nb_w (k : Nat) : (El.nb k).v.2 = 0 := rfl
/-- The cells of eight elements. -/
def a8 (t : Nat → El) : Array Value := rowA 16 (pf (cA t) (cB t))
theorem info8 : (Tryz.prog.info? 80).map (fun i => (i.zero, i.size)) = some (some (.agg (a8 zE)), 16) := by kernel_rfl
theorem info8s : (Tryz.prog.info? 80).map (·.size) = some 16 := by kernel_rfl
/-- Eight elements in block b. -/
def ArE (w : World) (b : Nat) (t : Nat → El) : Prop := w.rowIs b 80 16 (pf (cA t) (cB t))
theorem ArE.new (w : World) (t : Nat → El) : ArE (w.alloc (.cells (a8 t) 80)) w.heap.size t := rowIs_new w 16 _ _
theorem ArE.at_ (w : World) (g : Nat) (hg : g = w.heap.size) (t : Nat → El) : ArE (w.alloc (.cells (a8 t) 80)) g t := by subst hg; exact ArE.new w t
theorem ArE.keep {w w' : World} {b : Nat} {t : Nat → El} (h : ArE w b t) (k : Chg nob w w') : ArE w' b t := rowIs_keep h k
theorem ArE.chg {P : Nat → Prop} {w w' : World} {b : Nat} {t : Nat → El} (h : ArE w b t) (k : Chg P w w') (hp : ¬ P b) : ArE w' b t := rowIs_chg h k hp
theorem ArE.lt {w : World} {b : Nat} {t : Nat → El} (h : ArE w b t) : b < w.heap.size := World.rowIs.lt h
theorem ArE.c0 {w : World} {b : Nat} {t : Nat → El} (h : ArE w b t) {k : Nat} (hk : k < 8) : w.cell? ⟨b, k * 2, none⟩ = some (.int .i64 (t k).v.1) := by rw [World.rowIs.cell h (by omega), pf_even]; rfl
theorem ArE.c1 {w : World} {b : Nat} {t : Nat → El} (h : ArE w b t) {k : Nat} (hk : k < 8) : w.cell? ⟨b, k * 2 + 1, none⟩ = some (.int .i64 (t k).v.2) := by rw [World.rowIs.cell h (by omega), pf_odd]; rfl
theorem ArE.fz {w : World} {b : Nat} {t : Nat → El} (h : ArE w b t) (o : Nat) : w.frozen? ⟨b, o, none⟩ = false := World.rowIs.frozen h o
theorem ArE.congr {w : World} {b : Nat} {t u : Nat → El} (h : ArE w b t) (e : ∀ i, i < 8 → t i = u i) : ArE w b u :=
  World.rowIs.congr h (fun i hi => by unfold pf cA cB; rw [e (i / 2) (by omega)])
theorem ArE.set {w : World} {b : Nat} {t : Nat → El} (h : ArE w b t) (k : Nat) (x : El) : ArE ((w.setCell ⟨b, k * 2, none⟩ (.int .i64 x.v.1)).setCell ⟨b, k * 2 + 1, none⟩ (.int .i64 x.v.2)) b (upE t k x) :=
  World.rowIs.congr (World.rowIs.set (World.rowIs.set h (k * 2) _) (k * 2 + 1) _) (fun i hi => by
    by_cases e1 : i = k * 2 + 1
    · subst e1; simp [pf_odd, cB, upE]
    · by_cases e2 : i = k * 2
      · subst e2; simp [pf_even, cA, upE]
      · have e3 : ¬ i / 2 = k := by omega
        simp [e1, e2, pf, cA, cB, upE, e3])
theorem ArE.other {w : World} {b g : Nat} {t : Nat → El} (h : ArE w b t) (hne : b ≠ g) (o o' : Nat) (u v : Value) : ArE ((w.setCell ⟨g, o, none⟩ u).setCell ⟨g, o', none⟩ v) b t :=
  World.rowIs.setOther (a := ⟨g, o', none⟩) (World.rowIs.setOther (a := ⟨g, o, none⟩) h hne u) hne v
theorem pf_one (t : Nat → El) (i : Nat) : (pf (cA t) (cB t) i).oneCell' = true := by unfold pf; split <;> rfl

section
variable {ops : Array Oper} {rest : List Oper} {o : Oper} {a : Act} {w : World} {Q : Exit → Act → World → Prop}
theorem wpList_load_a8 (x : Operand) (hgd : o.guard = none) (ho : o.op = .load 80 x) (g : Nat) (hx : a.eval x = .pointer (some ⟨g, 0, none⟩)) {t : Nat → El} (hr : ArE w g t)
    (h : wpList Tryz.prog ops Q rest (a.put o.dst (.agg (a8 t))) w) : wpList Tryz.prog ops Q (o :: rest) a w :=
  wpList_load_row hgd 80 x ho g hx 80 (a8 t) (0, 0) _ (rowA_of hr) Tryz.underlying80 rfl (by rw [a8, rowA_size]; exact info8s) h
theorem wpList_store_a8 (x y : Operand) (hgd : o.guard = none) (ho : o.op = .store 80 x y) (g : Nat) {t : Nat → El} (hx : a.eval x = .pointer (some ⟨g, 0, none⟩)) (hy : a.eval y = .agg (a8 t)) {t0 : Nat → El} (hr : ArE w g t0)
    (h : ∀ w', ArE w' g t → Chg (fun b => b = g) w w' → wpList Tryz.prog ops Q rest (a.put o.dst undef) w') : wpList Tryz.prog ops Q (o :: rest) a w :=
  wpList_store_all 80 x y hgd ho g 16 (pf (cA t) (cB t)) hx hy 80 (pf (cA t0) (cB t0)) hr info8s (fun i _ => pf_one t i) h
theorem results_a8 {fn : Func} {p : Tmp} (h : fn.results = #[.cell p 80]) (tmps : Array Value) (w : World) (g : Nat) (hp : tmps.getD p undef = .pointer (some ⟨g, 0, none⟩)) {t : Nat → El} (hr : ArE w g t) : (results fn tmps).run Tryz.prog w = .ok (.agg (a8 t)) w :=
  results_cell_row h tmps w g 80 (a8 t) (0, 0) _ hp (rowA_of hr) Tryz.underlying80 rfl (by rw [a8, rowA_size]; exact info8s)
theorem a8_copied (n : Nat) (t u : Nat → El) (hn : n ≤ 8) (i : Nat) (hi : i < 16) : ((List.range (n * 2)).map (pf (cA t) (cB t)) ++ (a8 u).toList.drop (n * 2))[i]? = some (pf (cA (fitE t n u)) (cB (fitE t n u)) i) := by
  have e0 : (a8 u).toList = (List.range 16).map (pf (cA u) (cB u)) := by simp [a8, rowA]
  rw [e0]
  by_cases h1 : i < n * 2
  · rw [List.getElem?_append_left (by simpa using h1), List.getElem?_map, List.getElem?_range h1]
    simp only [Option.map_some, Option.some.injEq]
    unfold pf cA cB fitE
    rw [if_pos (show i / 2 < n by omega)]
  · rw [List.getElem?_append_right (by simp; omega), List.getElem?_drop]
    simp only [List.length_map, List.length_range]
    rw [show n * 2 + (i - n * 2) = i by omega, List.getElem?_map, List.getElem?_range hi]
    simp only [Option.map_some, Option.some.injEq]
    unfold pf cA cB fitE
    rw [if_neg (show ¬ i / 2 < n by omega)]
theorem wpList_copy_a8 (d x : Operand) (hgd : o.guard = none) (ho : o.op = .call { callee := .builtin .copy, args := #[d, x], argTypes := #[30, 30] })
    (g : Nat) (c : Option Addr) (n cap : Nat) (hd : a.eval d = .slice (some ⟨g, 0, none⟩) 8 8) (hs : a.eval x = .slice c n cap) {u t : Nat → El} (hr : ArE w g u) (hv : PairE w c n t) (hl : n ≤ 8)
    (h : ∀ w', ArE w' g (fitE t n u) → Chg (fun b => b = g) w w' → wpList Tryz.prog ops Q rest (a.put o.dst (goInt n)) w') : wpList Tryz.prog ops Q (o :: rest) a w := by
  have hmin : Nat.min n 8 = n := Nat.min_eq_left hl
  have hu : Tryz.prog.underlying 30 = some (.slice 31) := Tryz.underlying30
  obtain ⟨i, hi, _, hz1, _⟩ := info_parts infoExt
  refine wpList_plain hgd fun K hK => ?_
  by_cases h0 : n = 0
  · subst h0
    have hlc : ∀ (x : Addr), (loadCells x 0).run Tryz.prog w = .ok #[] w := fun x => by simpa using run_loadCells_list (P := Tryz.prog) w x [] (by simp)
    have hrun : (Builtin.copy_ #[30, 30] o.type #[.slice (some ⟨g, 0, none⟩) 8 8, .slice c 0 cap]).run Tryz.prog w = .ok (goInt 0) w := by
      cases c <;> simp [Builtin.copy_, run_underlying hu, Builtin.lenOf, Builtin.firstCells, sizeOf, typeInfo, hi, storeCells, hlc]
    unfold Oper.wp
    simp [execOp, ho, resolve, invoke, builtin, hd, hs, hrun, Result.andThen]
    exact hK _ _ (h w (ArE.congr hr (fun i _ => by unfold fitE; rw [if_neg (by omega)])) (Chg.refl _ _))
  · obtain ⟨xb, xo, rfl, hxb, _, _⟩ := hv.at_ (i := 0) (by omega)
    have hcs : ∀ j v, ((List.range (n * 2)).map (pf (cA t) (cB t)))[j]? = some v → w.cell? ((⟨xb, xo, none⟩ : Addr).add j) = some v := by
      intro j v hj
      by_cases hjr : j < n * 2
      · rw [List.getElem?_map, List.getElem?_range hjr] at hj
        simp at hj
        subst hj
        rw [Go.WideShapes.add_plain]
        rcases (show j % 2 = 0 ∨ j % 2 = 1 by omega) with q | q
        · rw [show xo + j = xo + j / 2 * 2 by omega, hv.c0 (i := j / 2) (by omega)]
          unfold pf; rw [if_pos q]; rfl
        · rw [show xo + j = xo + j / 2 * 2 + 1 by omega, hv.c1 (i := j / 2) (by omega)]
          unfold pf; rw [if_neg (by omega)]; rfl
      · rw [List.getElem?_eq_none (by simp; omega)] at hj
        cases hj
    have hl := run_loadCells_list (P := Tryz.prog) w ⟨xb, xo, none⟩ _ hcs
    have hst := run_storeCells_at Tryz.prog g 0 80 ((List.range (n * 2)).map (pf (cA t) (cB t))) 0 (a8 u) w (rowA_of hr) (by rw [a8, rowA_size]; simp; omega) (by intro v hv; simp at hv; obtain ⟨j, _, rfl⟩ := hv; exact pf_one t j)
    have hlen : ((List.range (n * 2)).map (pf (cA t) (cB t))).length = n * 2 := by simp
    rw [hlen] at hl hst
    have hrun : (Builtin.copy_ #[30, 30] o.type #[.slice (some ⟨g, 0, none⟩) 8 8, .slice (some ⟨xb, xo, none⟩) n cap]).run Tryz.prog w = .ok (goInt n) (w.setRow g ((a8 u).toList.take (0 + 0) ++ ((List.range (n * 2)).map (pf (cA t) (cB t))) ++ (a8 u).toList.drop (0 + 0 + n * 2)).toArray) := by
      simp only [Builtin.copy_, run_underlying hu, Builtin.lenOf, Builtin.firstCells, sizeOf, typeInfo, hi, hz1, hmin, Sem.run_bind, Sem.run_pure, Result.andThen_ok]
      simp [run_underlying hu, typeInfo, hi, hz1, hmin, hl, hst]
    unfold Oper.wp
    simp only [execOp, ho, resolve, invoke, builtin, List.map_toArray, List.map_cons, List.map_nil, hd, hs]
    simp [hrun, Result.andThen]
    refine hK _ _ (h _ ?_ ?_)
    · refine ⟨_, setRow_heap w g _ _ 80 _ (rowA_of hr), ?_, fun i hi => ?_⟩
      · simp [a8, rowA_size]; omega
      · rw [List.getElem?_toArray]
        exact a8_copied n t u (by omega) i hi
    · refine ⟨rfl, rfl, rfl, by simp [World.setRow], fun k hk hp => ?_⟩
      simp only [World.setRow, Array.getElem?_modify]
      rw [if_neg (fun e => hp e.symm)]
end
/-- Differences, k times over. -/
def dfK (v : Nat → El) (k i : Nat) : El := if i < k then El.dif v i 0 else El.dif v k (i - k)
theorem dfK_zero (v : Nat → El) (i : Nat) : dfK v 0 i = v i := rfl
/-- The k-th time over, half done: from q on. -/
def dfQ (v : Nat → El) (n k q i : Nat) : El := if q ≤ i ∧ i < n then dfK v (k + 1) i else dfK v k i
theorem dfQ_start (v : Nat → El) (n k i : Nat) : dfQ v n k n i = dfK v k i := by unfold dfQ; rw [if_neg (by omega)]
theorem dfQ_own {v : Nat → El} {n k q i : Nat} (h : i < q) : dfQ v n k q i = dfK v k i := by unfold dfQ; rw [if_neg (by omega)]
theorem dfK_step {v : Nat → El} {k i : Nat} (h : k < i) : El.sb (dfK v k i) (dfK v k (i - 1)) = dfK v (k + 1) i := by
  unfold dfK
  rw [if_neg (by omega), if_neg (by omega), if_neg (by omega), show i - 1 - k = i - (k + 1) by omega, El.dif, show i - (k + 1) + 1 = i - k by omega]
theorem dfQ_step {v : Nat → El} {n k q : Nat} (hk : k < q) (hq : q < n) (i : Nat) : upE (dfQ v n k (q + 1)) q (dfK v (k + 1) q) i = dfQ v n k q i := by
  unfold upE dfQ
  by_cases e : i = q
  · subst e; rw [if_pos rfl, if_pos (by omega)]
  · rw [if_neg e]
    by_cases h : q + 1 ≤ i ∧ i < n
    · rw [if_pos h, if_pos (by omega)]
    · rw [if_neg h, if_neg (by omega)]
theorem dfQ_end {v : Nat → El} {n k i : Nat} (hi : i < n) : dfQ v n k (k + 1) i = dfK v (k + 1) i := by
  unfold dfQ
  by_cases h : k + 1 ≤ i
  · rw [if_pos ⟨h, hi⟩]
  · rw [if_neg (by omega)]
    unfold dfK
    by_cases h2 : i < k
    · rw [if_pos h2, if_pos (by omega)]
    · obtain rfl : i = k := by omega
      rw [if_neg (by omega), if_pos (by omega), Nat.sub_self]

end Go.Proofs.YtccgjbdjbgefiaaGreatDoor

namespace Go.Proofs.YtccgjbdjbgefiaaGreatDoor
open Go.ChangeShapes Go.WideShapes Go.ChangeAt Go.RowKit
set_option linter.unusedVariables false
set_option maxRecDepth 100000
set_option linter.unusedSimpArgs false


end Go.Proofs.YtccgjbdjbgefiaaGreatDoor

namespace Go.Proofs.YtccgjbdjbgefiaaGreatDoor
open Go.ChangeShapes Go.WideShapes Go.ChangeAt Go.RowKit
set_option linter.unusedVariables false
set_option maxRecDepth 100000
set_option linter.unusedSimpArgs false

theorem lgd_b (i : Nat) : ∀ k, (El.lgp El.on (El.nb i) i k).v.2 = 0 := by
  intro k
  induction k with
  | zero => rfl
  | succ k ih =>
    rw [El.lgp]
    by_cases e : k = i
    · rw [if_pos e, ih]
    · rw [if_neg e]
      show Fld.mB _ _ _ _ = 0
      unfold Fld.mB
      rw [ih]
      simp [El.sb, El.nb]
theorem lgd_a {i k : Nat} (hi : i < 100) (hk : k < 100) (h : ¬ k = i) : (El.lgp El.on (El.nb i) i k).v.1 * (((i : Int) + 2130706433 - (k : Int)) % 2130706433) % 2130706433 = (El.lgp El.on (El.nb i) i (k + 1)).v.1 := by
  rw [El.lgp, if_neg h]
  show _ = Fld.mA _ _ _ _
  unfold Fld.mA
  rw [lgd_b]
  have e : (El.sb (El.nb i) (El.nb k)).v.1 = ((i : Int) + 2130706433 - (k : Int)) % 2130706433 := by
    show ((El.nb i).v.1 + 2130706433 - (El.nb k).v.1) % 2130706433 = _
    rw [nb_v hi, nb_v hk]
  rw [e]
  simp
theorem el_inv {D : El} (hb : D.v.2 = 0) (hne : D ≠ El.zr) : (El.inv D).v.1 = Fld.pw D.v.1 2130706431 % 2130706433 ∧ (El.inv D).v.2 = 0 := by
  have hpos : 0 < D.v.1 := by
    have := D.lo1
    have h0 : D.v.1 ≠ 0 := fun e => hne (El.eq2 e hb)
    omega
  have hm := Fld.inv_mul D.v.1 hpos D.hi1
  obtain ⟨Y, hY1, hY2⟩ : ∃ Y : El, Y.v.1 = Fld.pw D.v.1 2130706431 % 2130706433 ∧ Y.v.2 = 0 := ⟨⟨(Fld.pw D.v.1 2130706431 % 2130706433, 0), by unfold Fld.Red; dsimp only; omega⟩, rfl, rfl⟩
  have e : El.ml Y D = El.on := by
    refine El.eq2 ?_ ?_
    · show Fld.mA _ _ _ _ = 1
      unfold Fld.mA
      rw [hY1, hY2, hb]
      simpa using hm
    · show Fld.mB _ _ _ _ = 0
      unfold Fld.mB
      rw [hY2, hb]
      simp
  rw [← El.inv_of e]
  exact ⟨hY1, hY2⟩

theorem sOf_nb (k : Nat) (hk : k < 100) (w : World) : Calls Tryz.prog 64 #[.int .i64 (k : Int)] w fun e w' => e = .returned (.agg #[.int .i64 (El.nb k).v.1, .int .i64 (El.nb k).v.2]) ∧ Chg nob w w' :=
  (l02Of_any (k : Int) w).mono (fun e w' h => ⟨by rw [h.1, nb_v hk, nb_w], by rw [h.2]; exact (Chg.refl nob w).alloc _⟩)

theorem sOf_inv (D : El) (hb : D.v.2 = 0) (hne : D ≠ El.zr) (w : World) : Calls Tryz.prog 64 #[.int .i64 (Fld.pw D.v.1 2130706431 % 2130706433)] w fun e w' => e = .returned (.agg #[.int .i64 (El.inv D).v.1, .int .i64 (El.inv D).v.2]) ∧ Chg nob w w' :=
  (l02Of_any _ w).mono (fun e w' h => ⟨by rw [h.1, (el_inv hb hne).1, (el_inv hb hne).2], by rw [h.2]; exact (Chg.refl nob w).alloc _⟩)

theorem sInv_c (D : El) (w : World) : Calls Tryz.prog 67 #[.int .i64 D.v.1] w fun e w' => e = .returned (.int .i64 (Fld.pw D.v.1 2130706431 % 2130706433)) ∧ Chg nob w w' :=
  (l01Inverse_any D.v.1 w D.lo1 D.hi1).mono (fun e w' h => ⟨h.1, by rw [h.2]; exact Chg.refl nob w⟩)

set_option maxHeartbeats 4000000 in
theorem sLine_any (c : Option Addr) (n cap : Nat) (v : Nat → El) (x : El) (w : World) (h : Hid (PairE w c n v)) (hn : n ≤ 8) : Calls Tryz.prog 42 #[.slice c n cap, .agg #[.int .i64 x.v.1, .int .i64 x.v.2]] w fun e w' => e = .returned (.agg #[.int .i64 (El.lag v x n).v.1, .int .i64 (El.lag v x n).v.2]) ∧ Chg nob w w' := by
  go_enter Tryz.func42, Tryz.ntmps42
  go_wp2
  go_loopw [6] (fun i W => ∃ u : Nat, u ≤ n ∧ i = .int .i64 u ∧ Hid (ElB W (w.heap.size + 1 + 1) (El.sm (fun i => El.ml (El.lgp (v i) x i n) (El.inv (El.lgp El.on (El.nb i) i n))) u)) ∧ Hid (ElB W w.heap.size x) ∧ Hid (ElB W (w.heap.size + 1) El.zr) ∧ Hid (Chg nob w W)) (fun i _ => n - (intOf i).toNat)
  case atStart =>
    refine ⟨0, Nat.zero_le _, rfl, hik ?_, hik ?_, hik ?_, hik ((((Chg.refl nob w).alloc _).alloc _).alloc _)⟩
    · exact (by simpa using ElB.zero ((w.alloc (.cells #[.int .i64 x.v.1, .int .i64 x.v.2] 31)).alloc (.cells #[.int .i64 0, .int .i64 0] 31)) : ElB (((w.alloc (.cells #[.int .i64 x.v.1, .int .i64 x.v.2] 31)).alloc (.cells #[.int .i64 0, .int .i64 0] 31)).alloc (.cells #[.int .i64 0, .int .i64 0] 31)) (w.heap.size + 1 + 1) El.zr)
    · exact ((ElB.new w x).keep ((Chg.refl nob _).alloc _)).keep ((Chg.refl nob _).alloc _)
    · exact ElB.keep (by simpa using ElB.zero (w.alloc (.cells #[.int .i64 x.v.1, .int .i64 x.v.2] 31)) : ElB ((w.alloc (.cells #[.int .i64 x.v.1, .int .i64 x.v.2] 31)).alloc (.cells #[.int .i64 0, .int .i64 0] 31)) (w.heap.size + 1) El.zr) ((Chg.refl nob _).alloc _)
  case round =>
    obtain ⟨u, hu, rfl, HO, HX, HR, HG⟩ := hrel
    rename World => wo
    by_cases hlt : u < n
    · have hu1 : (u : Int) < (n : Int) := by omega
      have hu0 : (0 : Int) ≤ (u : Int) := by omega
      have VY := hik (PairE.keep h.out HG.out)
      obtain ⟨zb, zo, ec, hzb, _, _⟩ := PairE.at_ VY.out hlt
      subst ec
      have z0 := PairE.c0 VY.out hlt
      have z1 := PairE.c1 VY.out hlt
      have hol : w.heap.size + 1 + 1 < wo.heap.size := HO.out.lt
      go_wp2
      clear z0 z1 VY
      go_loopw [8, 9] (fun d k W => ∃ q : Nat, q ≤ n ∧ k = .int .i64 q ∧ d = .int .i64 (El.lgp El.on (El.nb u) u q).v.1 ∧ Hid (ElB W wo.heap.size (El.lgp (v u) x u q)) ∧ Hid (Chg nob wo W)) (fun _ k _ => n - (intOf k).toNat)
      case atStart => exact ⟨0, Nat.zero_le _, rfl, rfl, hik (ElB.new wo (v u)), hik ((Chg.refl nob wo).alloc _)⟩
      case round =>
        obtain ⟨q, hq, rfl, rfl, HY, HH⟩ := hrel
        rename World => wi
        by_cases hlq : q < n
        · have hq1 : (q : Int) < (n : Int) := by omega
          by_cases hqu : q = u
          · have HY2 := hik (show ElB wi wo.heap.size (El.lgp (v u) x u (q + 1)) by rw [El.lgp, if_pos hqu]; exact HY.out)
            have HD2 := hik (show El.lgp El.on (El.nb u) u q = El.lgp El.on (El.nb u) u (q + 1) by rw [El.lgp, if_pos hqu])
            have hne : ((q : Int) != (u : Int)) = false := by rw [hqu]; simp
            have HQU := hik hqu
            clear hqu
            go_wp2
            go_roundw
            case rel => exact ⟨q + 1, by omega, by go_num, by rw [HD2.out], HY2, HH⟩
            case measure => simp [intOf]; omega
          · have hne : ((q : Int) != (u : Int)) = true := bne_iff_ne.2 (by omega)
            have HD2 := hik (lgd_a (i := u) (k := q) (by omega) (by omega) hqu)
            have HQU := hik hqu
            have HX3 := hik (HX.out.keep HH.out)
            have x0 := HX3.out.c0
            have x1 := HX3.out.c1
            have y0 := HY.out.c0
            have y1 := HY.out.c1
            have hyl : wo.heap.size < wi.heap.size := HY.out.lt
            clear hqu HX3
            obtain ⟨DD, hDD⟩ : ∃ DD, DD = El.lgp El.on (El.nb u) u q := ⟨_, rfl⟩
            rw [← hDD] at HD2 ⊢
            have HDD := hik hDD
            clear hDD
            go_wp2
            have KW := hik ((Chg.refl nob wi).drew1)
            have SA := hik (fun (WW : World) (kW : Chg nob wi WW) => (show (WW.cell? ⟨wo.heap.size, 0, none⟩ = some (.int .i64 (El.lgp (v u) x u q).v.1) ∧ WW.cell? ⟨wo.heap.size, 1, none⟩ = some (.int .i64 (El.lgp (v u) x u q).v.2) ∧ WW.cell? ⟨w.heap.size, 0, none⟩ = some (.int .i64 x.v.1) ∧ WW.cell? ⟨w.heap.size, 1, none⟩ = some (.int .i64 x.v.2)) from ⟨kW.see y0, kW.see y1, kW.see x0, kW.see x1⟩))
            refine wp_regionL (L := 6) (S := fun w' => w'.cell? ⟨wo.heap.size, 0, none⟩ = some (.int .i64 (El.lgp (v u) x u q).v.1) ∧ w'.cell? ⟨wo.heap.size, 1, none⟩ = some (.int .i64 (El.lgp (v u) x u q).v.2) ∧ w'.cell? ⟨w.heap.size, 0, none⟩ = some (.int .i64 x.v.1) ∧ w'.cell? ⟨w.heap.size, 1, none⟩ = some (.int .i64 x.v.2)) (by kernel_rfl) ⟨y0, y1, x0, x1⟩ (fun hHeld => ?_)
            refine wpAnyL_take (i := 0) (v := ?_) rfl (by kernel_rfl) (by kernel_rfl) (by kernel_rfl) (fun _ _ _ h => h) (by rfl) (by kernel_rfl) (by kernel_rfl) (Or.inl ⟨by rfl, ?_⟩) (by assumption) ?_
            rotate_left 1
            · (intro w' hSw; (try dsimp only at hSw); go_simp; try with_reducible rfl)
            try simp only [Act.put, List.setIfInBounds_toArray, List.set_cons_zero, List.set_cons_succ, List.getElem_toArray, List.getElem_cons_zero, List.getElem_cons_succ]
            refine wpAnyL_take (i := 1) (v := ?_) rfl (by kernel_rfl) (by kernel_rfl) (by kernel_rfl) (fun _ _ _ h => h) (by rfl) (by kernel_rfl) (by kernel_rfl) (Or.inl ⟨by rfl, ?_⟩) (by assumption) ?_
            rotate_left 1
            · (intro w' hSw; (try dsimp only at hSw); go_simp; try with_reducible rfl)
            try simp only [Act.put, List.setIfInBounds_toArray, List.set_cons_zero, List.set_cons_succ, List.getElem_toArray, List.getElem_cons_zero, List.getElem_cons_succ]
            refine wpAnyL_take (i := 2) (v := ?_) rfl (by kernel_rfl) (by kernel_rfl) (by kernel_rfl) (fun _ _ _ h => h) (by rfl) (by kernel_rfl) (by kernel_rfl) (Or.inl ⟨by rfl, ?_⟩) (by assumption) ?_
            rotate_left 1
            · (intro w' hSw; (try dsimp only at hSw); go_simp; try with_reducible rfl)
            try simp only [Act.put, List.setIfInBounds_toArray, List.set_cons_zero, List.set_cons_succ, List.getElem_toArray, List.getElem_cons_zero, List.getElem_cons_succ]
            refine wpAnyL_ready (rs := [3]) (by kernel_rfl) (by simp) ?_
            refine AllReadyL.cons rfl (fun K hK => ?_) AllReadyL.nil
            refine stepL_callN 64 #[.tmp 32] #[3] (by rfl) (by rfl) #[.int .i64 (q : Int)] (by simp only [List.map_toArray, List.map_cons, List.map_nil] <;> rfl) (run_go Tryz.func64 (by kernel_rfl) (by kernel_rfl) _ _) (sOf_nb q (by omega) _) ?_
            rintro e U1 ⟨he, kk⟩
            refine ⟨_, he, ?_⟩
            replace KW := hik (KW.out.trans kk)
            refine hK.out _ _ (SA.out _ KW.out) (fun hHeld => ?_)
            clear hK K
            try simp only [Act.put, List.setIfInBounds_toArray, List.set_cons_zero, List.set_cons_succ, List.getElem_toArray, List.getElem_cons_zero, List.getElem_cons_succ]
            clear he kk
            refine wpAnyL_ready (rs := [4]) (by kernel_rfl) (by simp) ?_
            refine AllReadyL.cons rfl (fun K hK => ?_) AllReadyL.nil
            refine stepL_callN 63 #[.tmp 31, .tmp 33] #[31, 31] (by rfl) (by rfl) #[.agg #[.int .i64 x.v.1, .int .i64 x.v.2], .agg #[.int .i64 (El.nb q).v.1, .int .i64 (El.nb q).v.2]] (by simp only [List.map_toArray, List.map_cons, List.map_nil] <;> rfl) (run_go Tryz.func63 (by kernel_rfl) (by kernel_rfl) _ _) (sSb_el x (El.nb q) _) ?_
            rintro e U2 ⟨he, kk⟩
            refine ⟨_, he, ?_⟩
            replace KW := hik (KW.out.trans kk)
            refine hK.out _ _ (SA.out _ KW.out) (fun hHeld => ?_)
            clear hK K
            try simp only [Act.put, List.setIfInBounds_toArray, List.set_cons_zero, List.set_cons_succ, List.getElem_toArray, List.getElem_cons_zero, List.getElem_cons_succ]
            clear he kk
            refine wpAnyL_ready (rs := [5]) (by kernel_rfl) (by simp) ?_
            refine AllReadyL.cons rfl (fun K hK => ?_) AllReadyL.nil
            refine stepL_callN 62 #[.tmp 30, .tmp 34] #[31, 31] (by rfl) (by rfl) #[.agg #[.int .i64 (El.lgp (v u) x u q).v.1, .int .i64 (El.lgp (v u) x u q).v.2], .agg #[.int .i64 (El.sb x (El.nb q)).v.1, .int .i64 (El.sb x (El.nb q)).v.2]] (by simp only [List.map_toArray, List.map_cons, List.map_nil] <;> rfl) (run_go Tryz.func62 (by kernel_rfl) (by kernel_rfl) _ _) (sMl_el (El.lgp (v u) x u q) (El.sb x (El.nb q)) _) ?_
            rintro e U3 ⟨he, kk⟩
            refine ⟨_, he, ?_⟩
            replace KW := hik (KW.out.trans kk)
            refine hK.out _ _ (SA.out _ KW.out) (fun hHeld => ?_)
            clear hK K
            try simp only [Act.put, List.setIfInBounds_toArray, List.set_cons_zero, List.set_cons_succ, List.getElem_toArray, List.getElem_cons_zero, List.getElem_cons_succ]
            clear he kk
            refine wpAnyL_ready (rs := [6]) (by kernel_rfl) (by simp) ?_
            refine AllReadyL.last rfl (by kernel_rfl) (fun K hK => ?_)
            have EN := hik (HY.out.keep KW.out)
            have g0 := EN.out.c0
            have g1 := EN.out.c1
            have f0 := EN.out.fz 0
            have f1 := EN.out.fz 1
            have ln : wo.heap.size < U3.heap.size := EN.out.lt
            simp only [List.getElem_toArray, List.getElem_cons_zero, List.getElem_cons_succ]
            go_simp
            refine hK.out _ _ ?_
            clear hK K
            try simp only [Act.put, List.setIfInBounds_toArray, List.set_cons_zero, List.set_cons_succ, List.getElem_toArray, List.getElem_cons_zero, List.getElem_cons_succ]
            clear g0 g1 f0 f1 ln
            refine wpAnyL_done (by kernel_rfl) ?_ _
            have E2 := hik (show ElB ((U3.setCell ⟨wo.heap.size, 0, none⟩ (.int .i64 (El.ml (El.lgp (v u) x u q) (El.sb x (El.nb q))).v.1)).setCell ⟨wo.heap.size, 1, none⟩ (.int .i64 (El.ml (El.lgp (v u) x u q) (El.sb x (El.nb q))).v.2)) wo.heap.size (El.lgp (v u) x u (q + 1)) by rw [El.lgp, if_neg HQU.out]; exact EN.out.set (El.ml (El.lgp (v u) x u q) (El.sb x (El.nb q))))
            have G2 := hik (chg2_at (HH.out.trans KW.out) wo.heap.size (fun l => absurd l (by omega)) 0 1 (.int .i64 (El.ml (El.lgp (v u) x u q) (El.sb x (El.nb q))).v.1) (.int .i64 (El.ml (El.lgp (v u) x u q) (El.sb x (El.nb q))).v.2))
            generalize hE : ((U3.setCell ⟨wo.heap.size, 0, none⟩ (.int .i64 (El.ml (El.lgp (v u) x u q) (El.sb x (El.nb q))).v.1)).setCell ⟨wo.heap.size, 1, none⟩ (.int .i64 (El.ml (El.lgp (v u) x u q) (El.sb x (El.nb q))).v.2)) = W5 at E2 G2 ⊢
            clear hE EN KW SA hHeld x0 x1 y0 y1 HY HH
            go_wp2_with fail
            refine (l01Sub_any (u : Int) (q : Int) _ (by omega) (by omega) (by omega) (by omega)).mono ?_
            rintro e W6 ⟨rfl, rfl⟩
            go_wp2_with fail
            refine (l01Mul_any DD.v.1 (((u : Int) + 2130706433 - (q : Int)) % 2130706433) _ DD.lo1 DD.hi1 (by omega) (by omega)).mono ?_
            rintro e W7 ⟨rfl, rfl⟩
            rw [HD2.out]
            go_wp2
            go_roundw
            case rel => exact ⟨q + 1, by omega, by go_num, rfl, E2, G2⟩
            case measure => simp [intOf]; omega
        · obtain rfl : n = q := by omega
          obtain ⟨DD, hDD⟩ : ∃ DD, DD = El.lgp El.on (El.nb u) u n := ⟨_, rfl⟩
          rw [← hDD]
          have hDb : DD.v.2 = 0 := by rw [hDD]; exact lgd_b u n
          have hDn : DD ≠ El.zr := by rw [hDD]; exact El.lgp_own (by omega) (by omega)
          have HDD := hik hDD
          have HO3 := hik (HO.out.keep HH.out)
          have HX3 := hik (HX.out.keep HH.out)
          have HR3 := hik (HR.out.keep HH.out)
          have HG3 := hik (HG.out.trans HH.out)
          have o0 := HO3.out.c0
          have o1 := HO3.out.c1
          have y0 := HY.out.c0
          have y1 := HY.out.c1
          have HNB := hik hDb
          have HNN := hik hDn
          clear hDD hDb hDn HO HX HR HG
          go_wp2
          have KW := hik ((Chg.refl nob wi).drew1)
          have SA := hik (fun (WW : World) (kW : Chg nob wi WW) => (show (WW.cell? ⟨w.heap.size + 1 + 1, 0, none⟩ = some (.int .i64 (El.sm (fun i => El.ml (El.lgp (v i) x i n) (El.inv (El.lgp El.on (El.nb i) i n))) u).v.1) ∧ WW.cell? ⟨w.heap.size + 1 + 1, 1, none⟩ = some (.int .i64 (El.sm (fun i => El.ml (El.lgp (v i) x i n) (El.inv (El.lgp El.on (El.nb i) i n))) u).v.2) ∧ WW.cell? ⟨wo.heap.size, 0, none⟩ = some (.int .i64 (El.lgp (v u) x u n).v.1) ∧ WW.cell? ⟨wo.heap.size, 1, none⟩ = some (.int .i64 (El.lgp (v u) x u n).v.2)) from ⟨kW.see o0, kW.see o1, kW.see y0, kW.see y1⟩))
          refine wp_regionL (L := 7) (S := fun w' => w'.cell? ⟨w.heap.size + 1 + 1, 0, none⟩ = some (.int .i64 (El.sm (fun i => El.ml (El.lgp (v i) x i n) (El.inv (El.lgp El.on (El.nb i) i n))) u).v.1) ∧ w'.cell? ⟨w.heap.size + 1 + 1, 1, none⟩ = some (.int .i64 (El.sm (fun i => El.ml (El.lgp (v i) x i n) (El.inv (El.lgp El.on (El.nb i) i n))) u).v.2) ∧ w'.cell? ⟨wo.heap.size, 0, none⟩ = some (.int .i64 (El.lgp (v u) x u n).v.1) ∧ w'.cell? ⟨wo.heap.size, 1, none⟩ = some (.int .i64 (El.lgp (v u) x u n).v.2)) (by kernel_rfl) ⟨o0, o1, y0, y1⟩ (fun hHeld => ?_)
          refine wpAnyL_take (i := 0) (v := ?_) rfl (by kernel_rfl) (by kernel_rfl) (by kernel_rfl) (fun _ _ _ h => h) (by rfl) (by kernel_rfl) (by kernel_rfl) (Or.inl ⟨by rfl, ?_⟩) (by assumption) ?_
          rotate_left 1
          · (intro w' hSw; (try dsimp only at hSw); go_simp; try with_reducible rfl)
          try simp only [Act.put, List.setIfInBounds_toArray, List.set_cons_zero, List.set_cons_succ, List.getElem_toArray, List.getElem_cons_zero, List.getElem_cons_succ]
          refine wpAnyL_take (i := 1) (v := ?_) rfl (by kernel_rfl) (by kernel_rfl) (by kernel_rfl) (fun _ _ _ h => h) (by rfl) (by kernel_rfl) (by kernel_rfl) (Or.inl ⟨by rfl, ?_⟩) (by assumption) ?_
          rotate_left 1
          · (intro w' hSw; (try dsimp only at hSw); go_simp; try with_reducible rfl)
          try simp only [Act.put, List.setIfInBounds_toArray, List.set_cons_zero, List.set_cons_succ, List.getElem_toArray, List.getElem_cons_zero, List.getElem_cons_succ]
          refine wpAnyL_take (i := 2) (v := ?_) rfl (by kernel_rfl) (by kernel_rfl) (by kernel_rfl) (fun _ _ _ h => h) (by rfl) (by kernel_rfl) (by kernel_rfl) (Or.inl ⟨by rfl, ?_⟩) (by assumption) ?_
          rotate_left 1
          · (intro w' hSw; (try dsimp only at hSw); go_simp; try with_reducible rfl)
          try simp only [Act.put, List.setIfInBounds_toArray, List.set_cons_zero, List.set_cons_succ, List.getElem_toArray, List.getElem_cons_zero, List.getElem_cons_succ]
          refine wpAnyL_ready (rs := [3]) (by kernel_rfl) (by simp) ?_
          refine AllReadyL.cons rfl (fun K hK => ?_) AllReadyL.nil
          refine stepL_callN 67 #[.tmp 43] #[3] (by rfl) (by rfl) #[.int .i64 DD.v.1] (by simp only [List.map_toArray, List.map_cons, List.map_nil] <;> rfl) (run_go Tryz.func67 (by kernel_rfl) (by kernel_rfl) _ _) (sInv_c DD _) ?_
          rintro e U1 ⟨he, kk⟩
          refine ⟨_, he, ?_⟩
          replace KW := hik (KW.out.trans kk)
          refine hK.out _ _ (SA.out _ KW.out) (fun hHeld => ?_)
          clear hK K
          try simp only [Act.put, List.setIfInBounds_toArray, List.set_cons_zero, List.set_cons_succ, List.getElem_toArray, List.getElem_cons_zero, List.getElem_cons_succ]
          clear he kk
          refine wpAnyL_ready (rs := [4]) (by kernel_rfl) (by simp) ?_
          refine AllReadyL.cons rfl (fun K hK => ?_) AllReadyL.nil
          refine stepL_callN 64 #[.tmp 44] #[3] (by rfl) (by rfl) #[.int .i64 (Fld.pw DD.v.1 2130706431 % 2130706433)] (by simp only [List.map_toArray, List.map_cons, List.map_nil] <;> rfl) (run_go Tryz.func64 (by kernel_rfl) (by kernel_rfl) _ _) (sOf_inv DD HNB.out HNN.out _) ?_
          rintro e U2 ⟨he, kk⟩
          refine ⟨_, he, ?_⟩
          replace KW := hik (KW.out.trans kk)
          refine hK.out _ _ (SA.out _ KW.out) (fun hHeld => ?_)
          clear hK K
          try simp only [Act.put, List.setIfInBounds_toArray, List.set_cons_zero, List.set_cons_succ, List.getElem_toArray, List.getElem_cons_zero, List.getElem_cons_succ]
          clear he kk
          refine wpAnyL_ready (rs := [5]) (by kernel_rfl) (by simp) ?_
          refine AllReadyL.cons rfl (fun K hK => ?_) AllReadyL.nil
          refine stepL_callN 62 #[.tmp 42, .tmp 45] #[31, 31] (by rfl) (by rfl) #[.agg #[.int .i64 (El.lgp (v u) x u n).v.1, .int .i64 (El.lgp (v u) x u n).v.2], .agg #[.int .i64 (El.inv DD).v.1, .int .i64 (El.inv DD).v.2]] (by simp only [List.map_toArray, List.map_cons, List.map_nil] <;> rfl) (run_go Tryz.func62 (by kernel_rfl) (by kernel_rfl) _ _) (sMl_el (El.lgp (v u) x u n) (El.inv DD) _) ?_
          rintro e U3 ⟨he, kk⟩
          refine ⟨_, he, ?_⟩
          replace KW := hik (KW.out.trans kk)
          refine hK.out _ _ (SA.out _ KW.out) (fun hHeld => ?_)
          clear hK K
          try simp only [Act.put, List.setIfInBounds_toArray, List.set_cons_zero, List.set_cons_succ, List.getElem_toArray, List.getElem_cons_zero, List.getElem_cons_succ]
          clear he kk
          refine wpAnyL_ready (rs := [6]) (by kernel_rfl) (by simp) ?_
          refine AllReadyL.cons rfl (fun K hK => ?_) AllReadyL.nil
          refine stepL_callN 39 #[.tmp 41, .tmp 46] #[31, 31] (by rfl) (by rfl) #[.agg #[.int .i64 (El.sm (fun i => El.ml (El.lgp (v i) x i n) (El.inv (El.lgp El.on (El.nb i) i n))) u).v.1, .int .i64 (El.sm (fun i => El.ml (El.lgp (v i) x i n) (El.inv (El.lgp El.on (El.nb i) i n))) u).v.2], .agg #[.int .i64 (El.ml (El.lgp (v u) x u n) (El.inv DD)).v.1, .int .i64 (El.ml (El.lgp (v u) x u n) (El.inv DD)).v.2]] (by simp only [List.map_toArray, List.map_cons, List.map_nil] <;> rfl) (run_go Tryz.func39 (by kernel_rfl) (by kernel_rfl) _ _) (sAd_el (El.sm (fun i => El.ml (El.lgp (v i) x i n) (El.inv (El.lgp El.on (El.nb i) i n))) u) (El.ml (El.lgp (v u) x u n) (El.inv DD)) _) ?_
          rintro e U4 ⟨he, kk⟩
          refine ⟨_, he, ?_⟩
          replace KW := hik (KW.out.trans kk)
          refine hK.out _ _ (SA.out _ KW.out) (fun hHeld => ?_)
          clear hK K
          try simp only [Act.put, List.setIfInBounds_toArray, List.set_cons_zero, List.set_cons_succ, List.getElem_toArray, List.getElem_cons_zero, List.getElem_cons_succ]
          clear he kk
          refine wpAnyL_ready (rs := [7]) (by kernel_rfl) (by simp) ?_
          refine AllReadyL.last rfl (by kernel_rfl) (fun K hK => ?_)
          have EN := hik (HO3.out.keep KW.out)
          have g0 := EN.out.c0
          have g1 := EN.out.c1
          have f0 := EN.out.fz 0
          have f1 := EN.out.fz 1
          have ln : w.heap.size + 1 + 1 < U4.heap.size := EN.out.lt
          simp only [List.getElem_toArray, List.getElem_cons_zero, List.getElem_cons_succ]
          go_simp
          refine hK.out _ _ ?_
          clear hK K
          try simp only [Act.put, List.setIfInBounds_toArray, List.set_cons_zero, List.set_cons_succ, List.getElem_toArray, List.getElem_cons_zero, List.getElem_cons_succ]
          clear g0 g1 f0 f1 ln
          refine wpAnyL_done (by kernel_rfl) ?_ _
          have E2 := hik (show ElB ((U4.setCell ⟨w.heap.size + 1 + 1, 0, none⟩ (.int .i64 (El.ad (El.sm (fun i => El.ml (El.lgp (v i) x i n) (El.inv (El.lgp El.on (El.nb i) i n))) u) (El.ml (El.lgp (v u) x u n) (El.inv DD))).v.1)).setCell ⟨w.heap.size + 1 + 1, 1, none⟩ (.int .i64 (El.ad (El.sm (fun i => El.ml (El.lgp (v i) x i n) (El.inv (El.lgp El.on (El.nb i) i n))) u) (El.ml (El.lgp (v u) x u n) (El.inv DD))).v.2)) (w.heap.size + 1 + 1) (El.sm (fun i => El.ml (El.lgp (v i) x i n) (El.inv (El.lgp El.on (El.nb i) i n))) (u + 1)) by
            have qq := EN.out.set (El.ad (El.sm (fun i => El.ml (El.lgp (v i) x i n) (El.inv (El.lgp El.on (El.nb i) i n))) u) (El.ml (El.lgp (v u) x u n) (El.inv DD)))
            rw [HDD.out] at qq
            rw [HDD.out]
            exact qq)
          have X5 := hik (ElB.other (HX3.out.keep KW.out) (g := w.heap.size + 1 + 1) (by omega) 0 1 (.int .i64 (El.ad (El.sm (fun i => El.ml (El.lgp (v i) x i n) (El.inv (El.lgp El.on (El.nb i) i n))) u) (El.ml (El.lgp (v u) x u n) (El.inv DD))).v.1) (.int .i64 (El.ad (El.sm (fun i => El.ml (El.lgp (v i) x i n) (El.inv (El.lgp El.on (El.nb i) i n))) u) (El.ml (El.lgp (v u) x u n) (El.inv DD))).v.2))
          have R5 := hik (ElB.other (HR3.out.keep KW.out) (g := w.heap.size + 1 + 1) (by omega) 0 1 (.int .i64 (El.ad (El.sm (fun i => El.ml (El.lgp (v i) x i n) (El.inv (El.lgp El.on (El.nb i) i n))) u) (El.ml (El.lgp (v u) x u n) (El.inv DD))).v.1) (.int .i64 (El.ad (El.sm (fun i => El.ml (El.lgp (v i) x i n) (El.inv (El.lgp El.on (El.nb i) i n))) u) (El.ml (El.lgp (v u) x u n) (El.inv DD))).v.2))
          have G2 := hik (chg2_at (HG3.out.trans KW.out) (w.heap.size + 1 + 1) (fun l => absurd l (by omega)) 0 1 (.int .i64 (El.ad (El.sm (fun i => El.ml (El.lgp (v i) x i n) (El.inv (El.lgp El.on (El.nb i) i n))) u) (El.ml (El.lgp (v u) x u n) (El.inv DD))).v.1) (.int .i64 (El.ad (El.sm (fun i => El.ml (El.lgp (v i) x i n) (El.inv (El.lgp El.on (El.nb i) i n))) u) (El.ml (El.lgp (v u) x u n) (El.inv DD))).v.2))
          generalize hE : ((U4.setCell ⟨w.heap.size + 1 + 1, 0, none⟩ (.int .i64 (El.ad (El.sm (fun i => El.ml (El.lgp (v i) x i n) (El.inv (El.lgp El.on (El.nb i) i n))) u) (El.ml (El.lgp (v u) x u n) (El.inv DD))).v.1)).setCell ⟨w.heap.size + 1 + 1, 1, none⟩ (.int .i64 (El.ad (El.sm (fun i => El.ml (El.lgp (v i) x i n) (El.inv (El.lgp El.on (El.nb i) i n))) u) (El.ml (El.lgp (v u) x u n) (El.inv DD))).v.2)) = W5 at E2 X5 R5 G2 ⊢
          clear hE EN KW SA hHeld o0 o1 y0 y1 HY HH HO3 HX3 HR3 HG3
          go_wp2
          go_roundw
          case rel => exact ⟨u + 1, by omega, by go_num, E2, X5, R5, G2⟩
          case measure => simp [intOf]; omega
    · obtain rfl : n = u := by omega
      have HO2 := hik (show ElB wo (w.heap.size + 1 + 1) (El.lag v x n) from HO.out)
      clear HO
      have e0 := HO2.out.c0
      have e1 := HO2.out.c1
      have c0 : wo.cell? ⟨w.heap.size + 1, 0, none⟩ = some (.int .i64 0) := HR.out.c0
      have c1 : wo.cell? ⟨w.heap.size + 1, 1, none⟩ = some (.int .i64 0) := HR.out.c1
      have f0 := HR.out.fz 0
      have f1 := HR.out.fz 1
      go_wp2
      have u0 := (HR.out.set (El.lag v x n)).c0
      have u1 := (HR.out.set (El.lag v x n)).c1
      exact bodyPost_ret (v := .agg #[.int .i64 (El.lag v x n).v.1, .int .i64 (El.lag v x n).v.2]) (by simp [results, Tryz.results42, go_sem, u0, u1]) rfl ⟨rfl, chg2_at HG.out (w.heap.size + 1) (fun l => absurd l (by omega)) 0 1 _ _⟩


end Go.Proofs.YtccgjbdjbgefiaaGreatDoor
