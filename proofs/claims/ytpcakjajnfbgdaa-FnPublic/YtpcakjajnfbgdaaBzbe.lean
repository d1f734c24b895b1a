/- Several texts in one: Tables by value (a size and 64 elements): words on memory and laws. No condition but those that each theorem states. · What the program's tables by value answer: cubeFrom, list, onTheWayTo, bound: contracts. Conditions: elements of the greater field, rows that can be read, sizes of at most 64. -/
import Derived.Test.YtpcakjajnfbgdaaBzbb
import Derived.Test.YtpcakjajnfbgdaaBzbd
import Derived.Test.YtpcakjajnfbgdaaBzav
import Derived.Laws.CopyRow
import Derived.Laws.CopyOwn
import Derived.Laws.Cover3
namespace Go.Proofs.Ytpcakjajnfbgdaa
open Go.ChangeShapes Go.WideShapes Go.ChangeAt Go.RowKit
set_option linter.unusedVariables false
set_option maxRecDepth 100000
set_option linter.unusedSimpArgs false

/-- The cells of a table by value: its size, then its elements. -/
def cv (s : Nat) (t : Nat → El) (i : Nat) : Value := if i = 0 then .int .i64 (s : Int) else if i % 2 = 1 then .int .i64 (t (i / 2)).v.1 else .int .i64 (t (i / 2 - 1)).v.2
theorem cv_one (s : Nat) (t : Nat → El) (i : Nat) : (cv s t i).oneCell' = true := by
  unfold cv
  by_cases h : i = 0
  · rw [if_pos h]; rfl
  · rw [if_neg h]
    by_cases h2 : i % 2 = 1
    · rw [if_pos h2]; rfl
    · rw [if_neg h2]; rfl
theorem cv_a (s : Nat) (t : Nat → El) (k : Nat) : cv s t (1 + k * 2) = .int .i64 (t k).v.1 := by
  unfold cv
  rw [if_neg (by omega), if_pos (by omega), show (1 + k * 2) / 2 = k by omega]
theorem cv_b (s : Nat) (t : Nat → El) (k : Nat) : cv s t (1 + k * 2 + 1) = .int .i64 (t k).v.2 := by
  unfold cv
  rw [if_neg (by omega), if_neg (by omega), show (1 + k * 2 + 1) / 2 - 1 = k by omega]
def cb (s : Nat) (t : Nat → El) : Array Value := rowA 129 (cv s t)
theorem infoQb : (Try.prog.info? 85).map (fun i => (i.zero, i.size)) = some (some (.agg (cb 0 zE)), 129) := by kernel_rfl
theorem infoC1 : (Try.prog.info? 85).map (·.size) = some 129 := by kernel_rfl
/-- A table by value in block b. -/
def Cub (w : World) (b s : Nat) (t : Nat → El) : Prop := w.rowIs b 85 129 (cv s t)
theorem Cub.new (w : World) (s : Nat) (t : Nat → El) : Cub (w.alloc (.cells (cb s t) 85)) w.heap.size s t := rowIs_new w 129 (cv s t) _
theorem Cub.at_ (w : World) (g : Nat) (hg : g = w.heap.size) (s : Nat) (t : Nat → El) : Cub (w.alloc (.cells (cb s t) 85)) g s t := by subst hg; exact Cub.new w s t
theorem Cub.keep {w w' : World} {b s : Nat} {t : Nat → El} (h : Cub w b s t) (k : Chg nob w w') : Cub w' b s t := rowIs_keep h k
theorem Cub.chg {P : Nat → Prop} {w w' : World} {b s : Nat} {t : Nat → El} (h : Cub w b s t) (k : Chg P w w') (hp : ¬ P b) : Cub w' b s t := rowIs_chg h k hp
theorem Cub.lt {w : World} {b s : Nat} {t : Nat → El} (h : Cub w b s t) : b < w.heap.size := World.rowIs.lt h
theorem Cub.c {w : World} {b s : Nat} {t : Nat → El} (h : Cub w b s t) : w.cell? ⟨b, 0, none⟩ = some (.int .i64 (s : Int)) := World.rowIs.cell h (by omega)
theorem Cub.c0 {w : World} {b s : Nat} {t : Nat → El} (h : Cub w b s t) {k : Nat} (hk : k < 64) : w.cell? ⟨b, 1 + k * 2, none⟩ = some (.int .i64 (t k).v.1) := by rw [World.rowIs.cell h (by omega), cv_a]
theorem Cub.c1 {w : World} {b s : Nat} {t : Nat → El} (h : Cub w b s t) {k : Nat} (hk : k < 64) : w.cell? ⟨b, 1 + k * 2 + 1, none⟩ = some (.int .i64 (t k).v.2) := by rw [World.rowIs.cell h (by omega), cv_b]
theorem Cub.fz {w : World} {b s : Nat} {t : Nat → El} (h : Cub w b s t) (o : Nat) : w.frozen? ⟨b, o, none⟩ = false := World.rowIs.frozen h o
theorem Cub.congr {w : World} {b s : Nat} {t u : Nat → El} (h : Cub w b s t) (e : ∀ i, i < 64 → t i = u i) : Cub w b s u :=
  World.rowIs.congr h (fun i hi => by
    unfold cv
    by_cases h0 : i = 0
    · rw [if_pos h0, if_pos h0]
    · rw [if_neg h0, if_neg h0, e (i / 2 - 1) (by omega)]
      by_cases h1 : i % 2 = 1
      · rw [if_pos h1, if_pos h1, e (i / 2) (by omega)]
      · rw [if_neg h1, if_neg h1])
theorem Cub.set {w : World} {b s : Nat} {t : Nat → El} (h : Cub w b s t) (k : Nat) (x : El) : Cub ((w.setCell ⟨b, 1 + k * 2, none⟩ (.int .i64 x.v.1)).setCell ⟨b, 1 + k * 2 + 1, none⟩ (.int .i64 x.v.2)) b s (upE t k x) :=
  World.rowIs.congr (World.rowIs.set (World.rowIs.set h (1 + k * 2) _) (1 + k * 2 + 1) _) (fun i hi => by
    by_cases e1 : i = 1 + k * 2 + 1
    · subst e1; rw [if_pos rfl, cv_b]; unfold upE; rw [if_pos rfl]
    · rw [if_neg e1]
      by_cases e2 : i = 1 + k * 2
      · subst e2; rw [if_pos rfl, cv_a]; unfold upE; rw [if_pos rfl]
      · rw [if_neg e2]
        unfold cv upE
        by_cases h0 : i = 0
        · rw [if_pos h0, if_pos h0]
        · rw [if_neg h0, if_neg h0]
          by_cases h1 : i % 2 = 1
          · rw [if_pos h1, if_pos h1, if_neg (by omega)]
          · rw [if_neg h1, if_neg h1, if_neg (by omega)])
theorem Cub.size {w : World} {b s : Nat} {t : Nat → El} (h : Cub w b s t) (s' : Nat) : Cub (w.setCell ⟨b, 0, none⟩ (.int .i64 (s' : Int))) b s' t :=
  World.rowIs.congr (World.rowIs.set h 0 _) (fun i hi => by
    unfold cv
    by_cases h0 : i = 0
    · rw [if_pos h0, if_pos h0]
    · rw [if_neg h0, if_neg h0, if_neg h0])
theorem Cub.pairs {w : World} {b s : Nat} {t : Nat → El} (h : Cub w b s t) {n : Nat} (hn : n ≤ 64) : PairE w (some ⟨b, 1, none⟩) n t := fun i hi =>
  ⟨b, 1, rfl, h.lt, h.c0 (by omega), h.c1 (by omega)⟩

theorem Cub.other {w : World} {b g s : Nat} {t : Nat → El} (h : Cub w b s t) (hne : b ≠ g) (o o' : Nat) (u v : Value) : Cub ((w.setCell ⟨g, o, none⟩ u).setCell ⟨g, o', none⟩ v) b s t :=
  World.rowIs.setOther (a := ⟨g, o', none⟩) (World.rowIs.setOther (a := ⟨g, o, none⟩) h hne u) hne v
theorem cb_get (s : Nat) (t : Nat → El) : (cb s t)[0]? = some (.int .i64 (s : Int)) := rowA_at 129 (cv s t) 0 (by omega)
theorem cb_set (s s' : Nat) (t : Nat → El) : (cb s t).setIfInBounds 0 (.int .i64 (s' : Int)) = cb s' t := by
  unfold cb
  apply Array.ext_getElem?
  intro i
  rw [Array.getElem?_setIfInBounds]
  by_cases h : i < 129
  · rw [rowA_at _ _ _ h, rowA_at _ _ _ h, rowA_size]
    unfold cv
    by_cases h0 : 0 = i
    · subst h0; simp
    · have h0' : ¬ i = 0 := fun e => h0 e.symm
      simp only [h0, h0', if_false]
  · rw [Array.getElem?_eq_none (by rw [rowA_size]; omega), Array.getElem?_eq_none (by rw [rowA_size]; omega), if_neg (by omega)]

section
variable {ops : Array Oper} {rest : List Oper} {o : Oper} {a : Act} {w : World} {Q : Exit → Act → World → Prop}
/-- A whole table out of its block. -/
theorem wpList_load_cub (x : Operand) (hgd : o.guard = none) (ho : o.op = .load 85 x) (g : Nat) (hx : a.eval x = .pointer (some ⟨g, 0, none⟩)) {s : Nat} {t : Nat → El} (hr : Cub w g s t)
    (h : wpList Try.prog ops Q rest (a.put o.dst (.agg (cb s t))) w) : wpList Try.prog ops Q (o :: rest) a w :=
  wpList_load_row hgd 85 x ho g hx 85 (cb s t) (0, 0) _ (rowA_of hr) Try.underlying85 rfl (by rw [cb, rowA_size]; exact infoC1) h
/-- And into it. -/
theorem wpList_store_cub (x y : Operand) (hgd : o.guard = none) (ho : o.op = .store 85 x y) (g : Nat) {s : Nat} {t : Nat → El} (hx : a.eval x = .pointer (some ⟨g, 0, none⟩)) (hy : a.eval y = .agg (cb s t)) {s0 : Nat} {t0 : Nat → El} (hr : Cub w g s0 t0)
    (h : ∀ w', Cub w' g s t → Chg (fun b => b = g) w w' → wpList Try.prog ops Q rest (a.put o.dst undef) w') : wpList Try.prog ops Q (o :: rest) a w :=
  wpList_store_all 85 x y hgd ho g 129 (cv s t) hx hy 85 (cv s0 t0) hr infoC1 (fun i _ => cv_one s t i) h
theorem results_cub {fn : Func} {p : Tmp} (h : fn.results = #[.cell p 85]) (tmps : Array Value) (w : World) (g : Nat) (hp : tmps.getD p undef = .pointer (some ⟨g, 0, none⟩)) {s : Nat} {t : Nat → El} (hr : Cub w g s t) : (results fn tmps).run Try.prog w = .ok (.agg (cb s t)) w :=
  results_cell_row h tmps w g 85 (cb s t) (0, 0) _ hp (rowA_of hr) Try.underlying85 rfl (by rw [cb, rowA_size]; exact infoC1)
/-- A table of no element but a size. -/
theorem wpList_build_cub (x : Operand) (hgd : o.guard = none) (ho : o.op = .build 85 #[(0, x)]) (s : Nat) (hx : a.eval x = .int .i64 (s : Int))
    (h : wpList Try.prog ops Q rest (a.put o.dst (.agg (cb s zE))) w) : wpList Try.prog ops Q (o :: rest) a w := by
  have e : Try.prog.built 85 (#[(0, x)].map fun (i, x) => (i, a.eval x)).toList = some (cb s zE) := by
    simp only [List.map_toArray, List.map_cons, List.map_nil, hx]
    kernel_rfl
  refine wpList_build hgd 85 #[(0, x)] ho (by rw [e]; rfl) ?_
  rw [e]
  exact h
theorem cub_copied (s n : Nat) (t u : Nat → El) (hn : n ≤ 64) (i : Nat) (hi : i < 129) : ((cb s u).toList.take 1 ++ ((List.range (n * 2)).map (pf (cA t) (cB t)) ++ (cb s u).toList.drop (1 + n * 2)))[i]? = some (cv s (fitE t n u) i) := by
  have e0 : (cb s u).toList = (List.range 129).map (cv s u) := by simp [cb, rowA]
  rw [e0]
  by_cases h0 : i < 1
  · obtain rfl : i = 0 := by omega
    rfl
  · rw [List.getElem?_append_right (by simp; omega)]
    have el : (List.take 1 ((List.range 129).map (cv s u))).length = 1 := rfl
    rw [el]
    by_cases h1 : i - 1 < n * 2
    · rw [List.getElem?_append_left (by simpa using h1), List.getElem?_map, List.getElem?_range h1]
      simp only [Option.map_some, Option.some.injEq]
      unfold pf cA cB cv fitE
      rw [if_neg (show ¬ i = 0 by omega)]
      by_cases h2 : i % 2 = 1
      · rw [if_pos (show (i - 1) % 2 = 0 by omega), if_pos h2, if_pos (by omega), show (i - 1) / 2 = i / 2 by omega]
      · rw [if_neg (show ¬ (i - 1) % 2 = 0 by omega), if_neg h2, if_pos (by omega), show (i - 1) / 2 = i / 2 - 1 by omega]
    · rw [List.getElem?_append_right (by simp; omega), List.getElem?_drop]
      simp only [List.length_map, List.length_range]
      rw [show 1 + n * 2 + (i - 1 - n * 2) = i by omega, List.getElem?_map, List.getElem?_range hi]
      simp only [Option.map_some, Option.some.injEq]
      unfold cv fitE
      rw [if_neg (show ¬ i = 0 by omega), if_neg (show ¬ i = 0 by omega)]
      by_cases h2 : i % 2 = 1
      · rw [if_pos h2, if_pos h2, if_neg (by omega)]
      · rw [if_neg h2, if_neg h2, if_neg (by omega)]
theorem wpList_copy_cub (d x : Operand) (hgd : o.guard = none) (ho : o.op = .call { callee := .builtin .copy, args := #[d, x], argTypes := #[29, 29] })
    (g m cp : Nat) (c : Option Addr) (n cap : Nat) (hd : a.eval d = .slice (some ⟨g, 1, none⟩) m cp) (hs : a.eval x = .slice c n cap) {s : Nat} {u t : Nat → El} (hr : Cub w g s u) (hv : PairE w c n t) (hl : n ≤ m) (hm : m ≤ 64)
    (h : ∀ w', Cub w' g s (fitE t n u) → Chg (fun b => b = g) w w' → wpList Try.prog ops Q rest (a.put o.dst (goInt n)) w') : wpList Try.prog ops Q (o :: rest) a w := by
  have hmin : Nat.min n m = n := Nat.min_eq_left hl
  have hu : Try.prog.underlying 29 = some (.slice 32) := Try.underlying29
  obtain ⟨i, hi, _, hz1, _⟩ := info_parts infoExt
  refine wpList_plain hgd fun K hK => ?_
  by_cases h0 : n = 0
  · subst h0
    have hlc : ∀ (x : Addr), (loadCells x 0).run Try.prog w = .ok #[] w := fun x => by simpa using run_loadCells_list (P := Try.prog) w x [] (by simp)
    have hrun : (Builtin.copy_ #[29, 29] o.type #[.slice (some ⟨g, 1, none⟩) m cp, .slice c 0 cap]).run Try.prog w = .ok (goInt 0) w := by
      cases c <;> simp [Builtin.copy_, run_underlying hu, Builtin.lenOf, Builtin.firstCells, sizeOf, typeInfo, hi, storeCells, hlc]
    unfold Oper.wp
    simp [execOp, ho, resolve, invoke, builtin, hd, hs, hrun, Result.andThen]
    exact hK _ _ (h w (Cub.congr hr (fun i _ => by unfold fitE; rw [if_neg (by omega)])) (Chg.refl _ _))
  · obtain ⟨xb, xo, rfl, hxb, _, _⟩ := hv.at_ (i := 0) (by omega)
    have hcs : ∀ j v, ((List.range (n * 2)).map (pf (cA t) (cB t)))[j]? = some v → w.cell? ((⟨xb, xo, none⟩ : Addr).add j) = some v := by
      intro j v hj
      by_cases hjr : j < n * 2
      · rw [List.getElem?_map, List.getElem?_range hjr] at hj
        simp at hj
        subst hj
        rw [Go.WideShapes.add_plain]
        rcases (show j % 2 = 0 ∨ j % 2 = 1 by omega) with q | q
        · rw [show xo + j = xo + j / 2 * 2 by omega, hv.c0 (i := j / 2) (by omega)]
          unfold pf; rw [if_pos q]; rfl
        · rw [show xo + j = xo + j / 2 * 2 + 1 by omega, hv.c1 (i := j / 2) (by omega)]
          unfold pf; rw [if_neg (by omega)]; rfl
      · rw [List.getElem?_eq_none (by simp; omega)] at hj
        cases hj
    have hl := run_loadCells_list (P := Try.prog) w ⟨xb, xo, none⟩ _ hcs
    have hst := run_storeCells_at Try.prog g 1 85 ((List.range (n * 2)).map (pf (cA t) (cB t))) 0 (cb s u) w (rowA_of hr) (by rw [cb, rowA_size]; simp; omega) (by intro v hv; simp at hv; obtain ⟨j, _, rfl⟩ := hv; rfl)
    have hlen : ((List.range (n * 2)).map (pf (cA t) (cB t))).length = n * 2 := by simp
    rw [hlen] at hl
    have hrun : (Builtin.copy_ #[29, 29] o.type #[.slice (some ⟨g, 1, none⟩) m cp, .slice (some ⟨xb, xo, none⟩) n cap]).run Try.prog w = .ok (goInt n) (w.setRow g ((cb s u).toList.take (1 + 0) ++ ((List.range (n * 2)).map (pf (cA t) (cB t))) ++ (cb s u).toList.drop (1 + 0 + n * 2)).toArray) := by
      rw [hlen] at hst
      simp only [Builtin.copy_, run_underlying hu, Builtin.lenOf, Builtin.firstCells, sizeOf, typeInfo, hi, hz1, hmin, Sem.run_bind, Sem.run_pure, Result.andThen_ok]
      simp [run_underlying hu, typeInfo, hi, hz1, hmin, hl, hst]
    unfold Oper.wp
    simp only [execOp, ho, resolve, invoke, builtin, List.map_toArray, List.map_cons, List.map_nil, hd, hs]
    simp [hrun, Result.andThen]
    refine hK _ _ (h _ ?_ ?_)
    · refine ⟨_, setRow_heap w g _ _ 85 _ (rowA_of hr), ?_, fun i hi => ?_⟩
      · simp [cb, rowA_size]; omega
      · rw [List.getElem?_toArray]
        exact cub_copied s n t u (by omega) i hi
    · refine ⟨rfl, rfl, rfl, by simp [World.setRow], fun k hk hp => ?_⟩
      simp only [World.setRow, Array.getElem?_modify]
      rw [if_neg (fun e => hp e.symm)]
end

end Go.Proofs.Ytpcakjajnfbgdaa

namespace Go.Proofs.Ytpcakjajnfbgdaa
open Go.ChangeShapes Go.WideShapes Go.ChangeAt Go.RowKit
set_option linter.unusedVariables false
set_option maxRecDepth 100000
set_option linter.unusedSimpArgs false

set_option maxHeartbeats 1000000 in
theorem cubeFrom_any (c : Option Addr) (n cap : Nat) (t : Nat → El) (w : World) (h : Hid (PairE w c n t)) (hn : n ≤ 64) : Calls Try.prog 39 #[.slice c n cap] w fun e w' => e = .returned (.agg (cb n (fitE t n zE))) ∧ Chg nob w w' := by
  have hz := (zero_of_info infoQb).1
  go_enter Try.func39, Try.ntmps39
  go_wp2_with (first
    | ((with_reducible refine wpList_build_cub (.tmp 5) rfl rfl n ?hx ?_); (case hx => rfl))
    | ((with_reducible refine wpList_store_cub (s := n) (t := zE) (.tmp 3) (.tmp 6) rfl rfl (w.heap.size + 1) ?hx ?hy (Cub.at_ (w.alloc (.cells (cb 0 zE) 85)) (w.heap.size + 1) (by simp) 0 zE) ?_); (case hx => rfl); (case hy => rfl); intro W1 r1 g1; have R1 := hik r1; have Z1 := hik (Cub.chg ((Cub.new w 0 zE).keep ((Chg.refl nob _).alloc (.cells (cb 0 zE) 85))) g1 (by omega)); have G1 := hik (Chg.near (((Chg.refl nob w).alloc (.cells (cb 0 zE) 85)).alloc (.cells (cb 0 zE) 85)) g1 (fun i e => by omega)); clear r1 g1)
    | ((with_reducible refine wpList_copy_cub (.tmp 8) (.tmp 9) rfl rfl (w.heap.size + 1) 64 64 c n cap ?hd ?hs R1.out (PairE.keep h.out G1.out) hn (by omega) ?_); (case hd => rfl); (case hs => rfl); intro W2 r2 g2; have R2 := hik r2; have Z2 := hik (Cub.chg Z1.out g2 (by omega)); have G2 := hik (Chg.near G1.out g2 (fun i e => by omega)); clear r2 g2 Z1 G1)
    | ((with_reducible refine wpList_load_cub (.tmp 3) rfl rfl (w.heap.size + 1) ?hx R2.out ?_); (case hx => rfl))
    | ((with_reducible refine wpList_store_cub (s := n) (t := fitE t n zE) (.tmp 2) (.tmp 11) rfl rfl w.heap.size ?hx ?hy Z2.out ?_); (case hx => rfl); (case hy => rfl); intro W3 r3 g3; have R3 := hik r3; have G3 := hik (Chg.near G2.out g3 (fun i e => by omega)); clear r3 g3))
  exact bodyPost_ret (results_cub rfl _ _ w.heap.size rfl R3.out) rfl ⟨rfl, G3.out⟩


end Go.Proofs.Ytpcakjajnfbgdaa
