/- Several texts in one: Arrays of eight elements by value: words on memory and laws; numbers as elements. No condition but those that each theorem states. · LineAt's answers, plain: its code and its value. No condition. · What the model's polynomial through values answers: contracts. Conditions: rows that can be read, lengths of at most 2 to the 40. -/
import Derived.Test.YtgiefpipflcbgadGreatDoorBzap
import Derived.Test.YtgiefpipflcbgadGreatDoorBzad
import Derived.Test.YtgiefpipflcbgadGreatDoorBzac
import Derived.Laws.CopyRow
import Derived.Laws.CopyOwn
import Derived.Test.YtgiefpipflcbgadGreatDoorBzbb
import Derived.Test.YtgiefpipflcbgadGreatDoorBzba
import Derived.Test.YtgiefpipflcbgadGreatDoorBzay
namespace Go.Proofs.YtgiefpipflcbgadGreatDoor
open Go.ChangeShapes Go.WideShapes Go.ChangeAt Go.RowKit
set_option linter.unusedVariables false
set_option maxRecDepth 100000
set_option linter.unusedSimpArgs false

theorem nb_v {k : Nat} (h : k < 100) : (El.nb k).v.1 = (k : Int) := by simp only [El.nb]; omega
theorem nb_w (k : Nat) : (El.nb k).v.2 = 0 := rfl
/-- The cells of eight elements. -/
def a8 (t : Nat → El) : Array Value := rowA 16 (pf (cA t) (cB t))
theorem info8 : (Tryz.prog.info? 112).map (fun i => (i.zero, i.size)) = some (some (.agg (a8 zE)), 16) := by kernel_rfl
theorem info8s : (Tryz.prog.info? 112).map (·.size) = some 16 := by kernel_rfl
/-- Eight elements in block b. -/
def ArE (w : World) (b : Nat) (t : Nat → El) : Prop := w.rowIs b 112 16 (pf (cA t) (cB t))
theorem ArE.new (w : World) (t : Nat → El) : ArE (w.alloc (.cells (a8 t) 112)) w.heap.size t := rowIs_new w 16 _ _
theorem ArE.at_ (w : World) (g : Nat) (hg : g = w.heap.size) (t : Nat → El) : ArE (w.alloc (.cells (a8 t) 112)) g t := by subst hg; exact ArE.new w t
theorem ArE.keep {w w' : World} {b : Nat} {t : Nat → El} (h : ArE w b t) (k : Chg nob w w') : ArE w' b t := rowIs_keep h k
theorem ArE.chg {P : Nat → Prop} {w w' : World} {b : Nat} {t : Nat → El} (h : ArE w b t) (k : Chg P w w') (hp : ¬ P b) : ArE w' b t := rowIs_chg h k hp
theorem ArE.lt {w : World} {b : Nat} {t : Nat → El} (h : ArE w b t) : b < w.heap.size := World.rowIs.lt h
theorem ArE.c0 {w : World} {b : Nat} {t : Nat → El} (h : ArE w b t) {k : Nat} (hk : k < 8) : w.cell? ⟨b, k * 2, none⟩ = some (.int .i64 (t k).v.1) := by rw [World.rowIs.cell h (by omega), pf_even]; rfl
theorem ArE.c1 {w : World} {b : Nat} {t : Nat → El} (h : ArE w b t) {k : Nat} (hk : k < 8) : w.cell? ⟨b, k * 2 + 1, none⟩ = some (.int .i64 (t k).v.2) := by rw [World.rowIs.cell h (by omega), pf_odd]; rfl
theorem ArE.fz {w : World} {b : Nat} {t : Nat → El} (h : ArE w b t) (o : Nat) : w.frozen? ⟨b, o, none⟩ = false := World.rowIs.frozen h o
theorem ArE.congr {w : World} {b : Nat} {t u : Nat → El} (h : ArE w b t) (e : ∀ i, i < 8 → t i = u i) : ArE w b u :=
  World.rowIs.congr h (fun i hi => by unfold pf cA cB; rw [e (i / 2) (by omega)])
theorem ArE.set {w : World} {b : Nat} {t : Nat → El} (h : ArE w b t) (k : Nat) (x : El) : ArE ((w.setCell ⟨b, k * 2, none⟩ (.int .i64 x.v.1)).setCell ⟨b, k * 2 + 1, none⟩ (.int .i64 x.v.2)) b (upE t k x) :=
  World.rowIs.congr (World.rowIs.set (World.rowIs.set h (k * 2) _) (k * 2 + 1) _) (fun i hi => by
    by_cases e1 : i = k * 2 + 1
    · subst e1; simp [pf_odd, cB, upE]
    · by_cases e2 : i = k * 2
      · subst e2; simp [pf_even, cA, upE]
      · have e3 : ¬ i / 2 = k := by omega
        simp [e1, e2, pf, cA, cB, upE, e3])
theorem ArE.other {w : World} {b g : Nat} {t : Nat → El} (h : ArE w b t) (hne : b ≠ g) (o o' : Nat) (u v : Value) : ArE ((w.setCell ⟨g, o, none⟩ u).setCell ⟨g, o', none⟩ v) b t :=
  World.rowIs.setOther (a := ⟨g, o', none⟩) (World.rowIs.setOther (a := ⟨g, o, none⟩) h hne u) hne v
theorem pf_one (t : Nat → El) (i : Nat) : (pf (cA t) (cB t) i).oneCell' = true := by unfold pf; split <;> rfl

section
variable {ops : Array Oper} {rest : List Oper} {o : Oper} {a : Act} {w : World} {Q : Exit → Act → World → Prop}
theorem wpList_load_a8 (x : Operand) (hgd : o.guard = none) (ho : o.op = .load 112 x) (g : Nat) (hx : a.eval x = .pointer (some ⟨g, 0, none⟩)) {t : Nat → El} (hr : ArE w g t)
    (h : wpList Tryz.prog ops Q rest (a.put o.dst (.agg (a8 t))) w) : wpList Tryz.prog ops Q (o :: rest) a w :=
  wpList_load_row hgd 112 x ho g hx 112 (a8 t) (0, 0) _ (rowA_of hr) Tryz.underlying112 rfl (by rw [a8, rowA_size]; exact info8s) h
theorem wpList_store_a8 (x y : Operand) (hgd : o.guard = none) (ho : o.op = .store 112 x y) (g : Nat) {t : Nat → El} (hx : a.eval x = .pointer (some ⟨g, 0, none⟩)) (hy : a.eval y = .agg (a8 t)) {t0 : Nat → El} (hr : ArE w g t0)
    (h : ∀ w', ArE w' g t → Chg (fun b => b = g) w w' → wpList Tryz.prog ops Q rest (a.put o.dst undef) w') : wpList Tryz.prog ops Q (o :: rest) a w :=
  wpList_store_all 112 x y hgd ho g 16 (pf (cA t) (cB t)) hx hy 112 (pf (cA t0) (cB t0)) hr info8s (fun i _ => pf_one t i) h
theorem results_a8 {fn : Func} {p : Tmp} (h : fn.results = #[.cell p 112]) (tmps : Array Value) (w : World) (g : Nat) (hp : tmps.getD p undef = .pointer (some ⟨g, 0, none⟩)) {t : Nat → El} (hr : ArE w g t) : (results fn tmps).run Tryz.prog w = .ok (.agg (a8 t)) w :=
  results_cell_row h tmps w g 112 (a8 t) (0, 0) _ hp (rowA_of hr) Tryz.underlying112 rfl (by rw [a8, rowA_size]; exact info8s)
theorem a8_copied (n : Nat) (t u : Nat → El) (hn : n ≤ 8) (i : Nat) (hi : i < 16) : ((List.range (n * 2)).map (pf (cA t) (cB t)) ++ (a8 u).toList.drop (n * 2))[i]? = some (pf (cA (fitE t n u)) (cB (fitE t n u)) i) := by
  have e0 : (a8 u).toList = (List.range 16).map (pf (cA u) (cB u)) := by simp [a8, rowA]
  rw [e0]
  by_cases h1 : i < n * 2
  · rw [List.getElem?_append_left (by simpa using h1), List.getElem?_map, List.getElem?_range h1]
    simp only [Option.map_some, Option.some.injEq]
    unfold pf cA cB fitE
    rw [if_pos (show i / 2 < n by omega)]
  · rw [List.getElem?_append_right (by simp; omega), List.getElem?_drop]
    simp only [List.length_map, List.length_range]
    rw [show n * 2 + (i - n * 2) = i by omega, List.getElem?_map, List.getElem?_range hi]
    simp only [Option.map_some, Option.some.injEq]
    unfold pf cA cB fitE
    rw [if_neg (show ¬ i / 2 < n by omega)]
theorem wpList_copy_a8 (d x : Operand) (hgd : o.guard = none) (ho : o.op = .call { callee := .builtin .copy, args := #[d, x], argTypes := #[26, 26] })
    (g : Nat) (c : Option Addr) (n cap : Nat) (hd : a.eval d = .slice (some ⟨g, 0, none⟩) 8 8) (hs : a.eval x = .slice c n cap) {u t : Nat → El} (hr : ArE w g u) (hv : PairE w c n t) (hl : n ≤ 8)
    (h : ∀ w', ArE w' g (fitE t n u) → Chg (fun b => b = g) w w' → wpList Tryz.prog ops Q rest (a.put o.dst (goInt n)) w') : wpList Tryz.prog ops Q (o :: rest) a w := by
  have hmin : Nat.min n 8 = n := Nat.min_eq_left hl
  have hu : Tryz.prog.underlying 26 = some (.slice 31) := Tryz.underlying26
  obtain ⟨i, hi, _, hz1, _⟩ := info_parts infoExt
  refine wpList_plain hgd fun K hK => ?_
  by_cases h0 : n = 0
  · subst h0
    have hlc : ∀ (x : Addr), (loadCells x 0).run Tryz.prog w = .ok #[] w := fun x => by simpa using run_loadCells_list (P := Tryz.prog) w x [] (by simp)
    have hrun : (Builtin.copy_ #[26, 26] o.type #[.slice (some ⟨g, 0, none⟩) 8 8, .slice c 0 cap]).run Tryz.prog w = .ok (goInt 0) w := by
      cases c <;> simp [Builtin.copy_, run_underlying hu, Builtin.lenOf, Builtin.firstCells, sizeOf, typeInfo, hi, storeCells, hlc]
    unfold Oper.wp
    simp [execOp, ho, resolve, invoke, builtin, hd, hs, hrun, Result.andThen]
    exact hK _ _ (h w (ArE.congr hr (fun i _ => by unfold fitE; rw [if_neg (by omega)])) (Chg.refl _ _))
  · obtain ⟨xb, xo, rfl, hxb, _, _⟩ := hv.at_ (i := 0) (by omega)
    have hcs : ∀ j v, ((List.range (n * 2)).map (pf (cA t) (cB t)))[j]? = some v → w.cell? ((⟨xb, xo, none⟩ : Addr).add j) = some v := by
      intro j v hj
      by_cases hjr : j < n * 2
      · rw [List.getElem?_map, List.getElem?_range hjr] at hj
        simp at hj
        subst hj
        rw [Go.WideShapes.add_plain]
        rcases (show j % 2 = 0 ∨ j % 2 = 1 by omega) with q | q
        · rw [show xo + j = xo + j / 2 * 2 by omega, hv.c0 (i := j / 2) (by omega)]
          unfold pf; rw [if_pos q]; rfl
        · rw [show xo + j = xo + j / 2 * 2 + 1 by omega, hv.c1 (i := j / 2) (by omega)]
          unfold pf; rw [if_neg (by omega)]; rfl
      · rw [List.getElem?_eq_none (by simp; omega)] at hj
        cases hj
    have hl := run_loadCells_list (P := Tryz.prog) w ⟨xb, xo, none⟩ _ hcs
    have hst := run_storeCells_at Tryz.prog g 0 112 ((List.range (n * 2)).map (pf (cA t) (cB t))) 0 (a8 u) w (rowA_of hr) (by rw [a8, rowA_size]; simp; omega) (by intro v hv; simp at hv; obtain ⟨j, _, rfl⟩ := hv; exact pf_one t j)
    have hlen : ((List.range (n * 2)).map (pf (cA t) (cB t))).length = n * 2 := by simp
    rw [hlen] at hl hst
    have hrun : (Builtin.copy_ #[26, 26] o.type #[.slice (some ⟨g, 0, none⟩) 8 8, .slice (some ⟨xb, xo, none⟩) n cap]).run Tryz.prog w = .ok (goInt n) (w.setRow g ((a8 u).toList.take (0 + 0) ++ ((List.range (n * 2)).map (pf (cA t) (cB t))) ++ (a8 u).toList.drop (0 + 0 + n * 2)).toArray) := by
      simp only [Builtin.copy_, run_underlying hu, Builtin.lenOf, Builtin.firstCells, sizeOf, typeInfo, hi, hz1, hmin, Sem.run_bind, Sem.run_pure, Result.andThen_ok]
      simp [run_underlying hu, typeInfo, hi, hz1, hmin, hl, hst]
    unfold Oper.wp
    simp only [execOp, ho, resolve, invoke, builtin, List.map_toArray, List.map_cons, List.map_nil, hd, hs]
    simp [hrun, Result.andThen]
    refine hK _ _ (h _ ?_ ?_)
    · refine ⟨_, setRow_heap w g _ _ 112 _ (rowA_of hr), ?_, fun i hi => ?_⟩
      · simp [a8, rowA_size]; omega
      · rw [List.getElem?_toArray]
        exact a8_copied n t u (by omega) i hi
    · refine ⟨rfl, rfl, rfl, by simp [World.setRow], fun k hk hp => ?_⟩
      simp only [World.setRow, Array.getElem?_modify]
      rw [if_neg (fun e => hp e.symm)]
end
/-- Differences, k times over. -/
def dfK (v : Nat → El) (k i : Nat) : El := if i < k then El.dif v i 0 else El.dif v k (i - k)
theorem dfK_zero (v : Nat → El) (i : Nat) : dfK v 0 i = v i := rfl
/-- The k-th time over, half done: from q on. -/
def dfQ (v : Nat → El) (n k q i : Nat) : El := if q ≤ i ∧ i < n then dfK v (k + 1) i else dfK v k i
theorem dfQ_start (v : Nat → El) (n k i : Nat) : dfQ v n k n i = dfK v k i := by unfold dfQ; rw [if_neg (by omega)]
theorem dfQ_own {v : Nat → El} {n k q i : Nat} (h : i < q) : dfQ v n k q i = dfK v k i := by unfold dfQ; rw [if_neg (by omega)]
theorem dfK_step {v : Nat → El} {k i : Nat} (h : k < i) : El.sb (dfK v k i) (dfK v k (i - 1)) = dfK v (k + 1) i := by
  unfold dfK
  rw [if_neg (by omega), if_neg (by omega), if_neg (by omega), show i - 1 - k = i - (k + 1) by omega, El.dif, show i - (k + 1) + 1 = i - k by omega]
theorem dfQ_step {v : Nat → El} {n k q : Nat} (hk : k < q) (hq : q < n) (i : Nat) : upE (dfQ v n k (q + 1)) q (dfK v (k + 1) q) i = dfQ v n k q i := by
  unfold upE dfQ
  by_cases e : i = q
  · subst e; rw [if_pos rfl, if_pos (by omega)]
  · rw [if_neg e]
    by_cases h : q + 1 ≤ i ∧ i < n
    · rw [if_pos h, if_pos (by omega)]
    · rw [if_neg h, if_neg (by omega)]
theorem dfQ_end {v : Nat → El} {n k i : Nat} (hi : i < n) : dfQ v n k (k + 1) i = dfK v (k + 1) i := by
  unfold dfQ
  by_cases h : k + 1 ≤ i
  · rw [if_pos ⟨h, hi⟩]
  · rw [if_neg (by omega)]
    unfold dfK
    by_cases h2 : i < k
    · rw [if_pos h2, if_pos (by omega)]
    · obtain rfl : i = k := by omega
      rw [if_neg (by omega), if_pos (by omega), Nat.sub_self]

end Go.Proofs.YtgiefpipflcbgadGreatDoor

namespace Go.Proofs.YtgiefpipflcbgadGreatDoor
open Go.ChangeShapes Go.WideShapes Go.ChangeAt Go.RowKit
set_option linter.unusedVariables false
set_option maxRecDepth 100000
set_option linter.unusedSimpArgs false

end Go.Proofs.YtgiefpipflcbgadGreatDoor

namespace Go.Proofs.YtgiefpipflcbgadGreatDoor
open Go.ChangeShapes Go.WideShapes Go.ChangeAt Go.RowKit
set_option linter.unusedVariables false
set_option maxRecDepth 100000
set_option linter.unusedSimpArgs false

end Go.Proofs.YtgiefpipflcbgadGreatDoor
