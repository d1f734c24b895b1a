/- Several texts in one: Arrays of eight elements by value: words on memory and laws; numbers as elements. No condition but those that each theorem states. · What the program's polynomial through values answers: contracts. Conditions: elements of the greater field, at most eight values that can be read. · LineAt's answers, plain: its code and its value. No condition. · What the program's LineAt answers: a contract. Conditions: rows that can be read, lengths of at most 2 to the 40. · What the model's polynomial through values answers: contracts. Conditions: rows that can be read, lengths of at most 2 to the 40. · LineAt at right arguments, told by elements: contracts. Conditions: elements of the greater field, 1 to 8 values. -/
import Derived.Test.YtmcdkmohjmcjbacElR
import Derived.Test.YtmcdkmohjmcjbacRowA
import Derived.Test.YtmcdkmohjmcjbacRegL
import Derived.Laws.CopyRow
import Derived.Laws.CopyOwn
import Derived.Test.YtmcdkmohjmcjbacBdk
import Derived.Test.YtmcdkmohjmcjbacTabQ
import Derived.Test.YtmcdkmohjmcjbacTabT
import Derived.Test.YtmcdkmohjmcjbacLawE
namespace Go.Proofs.Ytmcdkmohjmcjbac
open Go.ChangeShapes Go.WideShapes Go.ChangeAt Go.RowKit
set_option linter.unusedVariables false
set_option maxRecDepth 100000
set_option linter.unusedSimpArgs false

theorem nb_v {k : Nat} (h : k < 100) : (El.nb k).v.1 = (k : Int) := by simp only [El.nb]; omega
theorem nb_w (k : Nat) : (El.nb k).v.2 = 0 := rfl
/-- The cells of eight elements. -/
def a8 (t : Nat → El) : Array Value := rowA 16 (pf (cA t) (cB t))
theorem info8 : (Try.prog.info? 87).map (fun i => (i.zero, i.size)) = some (some (.agg (a8 zE)), 16) := by kernel_rfl
theorem info8s : (Try.prog.info? 87).map (·.size) = some 16 := by kernel_rfl
/-- Eight elements in block b. -/
def ArE (w : World) (b : Nat) (t : Nat → El) : Prop := w.rowIs b 87 16 (pf (cA t) (cB t))
theorem ArE.new (w : World) (t : Nat → El) : ArE (w.alloc (.cells (a8 t) 87)) w.heap.size t := rowIs_new w 16 _ _
theorem ArE.at_ (w : World) (g : Nat) (hg : g = w.heap.size) (t : Nat → El) : ArE (w.alloc (.cells (a8 t) 87)) g t := by subst hg; exact ArE.new w t
theorem ArE.keep {w w' : World} {b : Nat} {t : Nat → El} (h : ArE w b t) (k : Chg nob w w') : ArE w' b t := rowIs_keep h k
theorem ArE.chg {P : Nat → Prop} {w w' : World} {b : Nat} {t : Nat → El} (h : ArE w b t) (k : Chg P w w') (hp : ¬ P b) : ArE w' b t := rowIs_chg h k hp
theorem ArE.lt {w : World} {b : Nat} {t : Nat → El} (h : ArE w b t) : b < w.heap.size := World.rowIs.lt h
theorem ArE.c0 {w : World} {b : Nat} {t : Nat → El} (h : ArE w b t) {k : Nat} (hk : k < 8) : w.cell? ⟨b, k * 2, none⟩ = some (.int .i64 (t k).v.1) := by rw [World.rowIs.cell h (by omega), pf_even]; rfl
theorem ArE.c1 {w : World} {b : Nat} {t : Nat → El} (h : ArE w b t) {k : Nat} (hk : k < 8) : w.cell? ⟨b, k * 2 + 1, none⟩ = some (.int .i64 (t k).v.2) := by rw [World.rowIs.cell h (by omega), pf_odd]; rfl
theorem ArE.fz {w : World} {b : Nat} {t : Nat → El} (h : ArE w b t) (o : Nat) : w.frozen? ⟨b, o, none⟩ = false := World.rowIs.frozen h o
theorem ArE.congr {w : World} {b : Nat} {t u : Nat → El} (h : ArE w b t) (e : ∀ i, i < 8 → t i = u i) : ArE w b u :=
  World.rowIs.congr h (fun i hi => by unfold pf cA cB; rw [e (i / 2) (by omega)])
theorem ArE.set {w : World} {b : Nat} {t : Nat → El} (h : ArE w b t) (k : Nat) (x : El) : ArE ((w.setCell ⟨b, k * 2, none⟩ (.int .i64 x.v.1)).setCell ⟨b, k * 2 + 1, none⟩ (.int .i64 x.v.2)) b (upE t k x) :=
  World.rowIs.congr (World.rowIs.set (World.rowIs.set h (k * 2) _) (k * 2 + 1) _) (fun i hi => by
    by_cases e1 : i = k * 2 + 1
    · subst e1; simp [pf_odd, cB, upE]
    · by_cases e2 : i = k * 2
      · subst e2; simp [pf_even, cA, upE]
      · have e3 : ¬ i / 2 = k := by omega
        simp [e1, e2, pf, cA, cB, upE, e3])
theorem ArE.other {w : World} {b g : Nat} {t : Nat → El} (h : ArE w b t) (hne : b ≠ g) (o o' : Nat) (u v : Value) : ArE ((w.setCell ⟨g, o, none⟩ u).setCell ⟨g, o', none⟩ v) b t :=
  World.rowIs.setOther (a := ⟨g, o', none⟩) (World.rowIs.setOther (a := ⟨g, o, none⟩) h hne u) hne v
theorem pf_one (t : Nat → El) (i : Nat) : (pf (cA t) (cB t) i).oneCell' = true := by unfold pf; split <;> rfl

section
variable {ops : Array Oper} {rest : List Oper} {o : Oper} {a : Act} {w : World} {Q : Exit → Act → World → Prop}
theorem wpList_load_a8 (x : Operand) (hgd : o.guard = none) (ho : o.op = .load 87 x) (g : Nat) (hx : a.eval x = .pointer (some ⟨g, 0, none⟩)) {t : Nat → El} (hr : ArE w g t)
    (h : wpList Try.prog ops Q rest (a.put o.dst (.agg (a8 t))) w) : wpList Try.prog ops Q (o :: rest) a w :=
  wpList_load_row hgd 87 x ho g hx 87 (a8 t) (0, 0) _ (rowA_of hr) Try.underlying87 rfl (by rw [a8, rowA_size]; exact info8s) h
theorem wpList_store_a8 (x y : Operand) (hgd : o.guard = none) (ho : o.op = .store 87 x y) (g : Nat) {t : Nat → El} (hx : a.eval x = .pointer (some ⟨g, 0, none⟩)) (hy : a.eval y = .agg (a8 t)) {t0 : Nat → El} (hr : ArE w g t0)
    (h : ∀ w', ArE w' g t → Chg (fun b => b = g) w w' → wpList Try.prog ops Q rest (a.put o.dst undef) w') : wpList Try.prog ops Q (o :: rest) a w :=
  wpList_store_all 87 x y hgd ho g 16 (pf (cA t) (cB t)) hx hy 87 (pf (cA t0) (cB t0)) hr info8s (fun i _ => pf_one t i) h
theorem results_a8 {fn : Func} {p : Tmp} (h : fn.results = #[.cell p 87]) (tmps : Array Value) (w : World) (g : Nat) (hp : tmps.getD p undef = .pointer (some ⟨g, 0, none⟩)) {t : Nat → El} (hr : ArE w g t) : (results fn tmps).run Try.prog w = .ok (.agg (a8 t)) w :=
  results_cell_row h tmps w g 87 (a8 t) (0, 0) _ hp (rowA_of hr) Try.underlying87 rfl (by rw [a8, rowA_size]; exact info8s)
theorem a8_copied (n : Nat) (t u : Nat → El) (hn : n ≤ 8) (i : Nat) (hi : i < 16) : ((List.range (n * 2)).map (pf (cA t) (cB t)) ++ (a8 u).toList.drop (n * 2))[i]? = some (pf (cA (fitE t n u)) (cB (fitE t n u)) i) := by
  have e0 : (a8 u).toList = (List.range 16).map (pf (cA u) (cB u)) := by simp [a8, rowA]
  rw [e0]
  by_cases h1 : i < n * 2
  · rw [List.getElem?_append_left (by simpa using h1), List.getElem?_map, List.getElem?_range h1]
    simp only [Option.map_some, Option.some.injEq]
    unfold pf cA cB fitE
    rw [if_pos (show i / 2 < n by omega)]
  · rw [List.getElem?_append_right (by simp; omega), List.getElem?_drop]
    simp only [List.length_map, List.length_range]
    rw [show n * 2 + (i - n * 2) = i by omega, List.getElem?_map, List.getElem?_range hi]
    simp only [Option.map_some, Option.some.injEq]
    unfold pf cA cB fitE
    rw [if_neg (show ¬ i / 2 < n by omega)]
theorem wpList_copy_a8 (d x : Operand) (hgd : o.guard = none) (ho : o.op = .call { callee := .builtin .copy, args := #[d, x], argTypes := #[24, 24] })
    (g : Nat) (c : Option Addr) (n cap : Nat) (hd : a.eval d = .slice (some ⟨g, 0, none⟩) 8 8) (hs : a.eval x = .slice c n cap) {u t : Nat → El} (hr : ArE w g u) (hv : PairE w c n t) (hl : n ≤ 8)
    (h : ∀ w', ArE w' g (fitE t n u) → Chg (fun b => b = g) w w' → wpList Try.prog ops Q rest (a.put o.dst (goInt n)) w') : wpList Try.prog ops Q (o :: rest) a w := by
  have hmin : Nat.min n 8 = n := Nat.min_eq_left hl
  have hu : Try.prog.underlying 24 = some (.slice 31) := Try.underlying24
  obtain ⟨i, hi, _, hz1, _⟩ := info_parts infoExt
  refine wpList_plain hgd fun K hK => ?_
  by_cases h0 : n = 0
  · subst h0
    have hlc : ∀ (x : Addr), (loadCells x 0).run Try.prog w = .ok #[] w := fun x => by simpa using run_loadCells_list (P := Try.prog) w x [] (by simp)
    have hrun : (Builtin.copy_ #[24, 24] o.type #[.slice (some ⟨g, 0, none⟩) 8 8, .slice c 0 cap]).run Try.prog w = .ok (goInt 0) w := by
      cases c <;> simp [Builtin.copy_, run_underlying hu, Builtin.lenOf, Builtin.firstCells, sizeOf, typeInfo, hi, storeCells, hlc]
    unfold Oper.wp
    simp [execOp, ho, resolve, invoke, builtin, hd, hs, hrun, Result.andThen]
    exact hK _ _ (h w (ArE.congr hr (fun i _ => by unfold fitE; rw [if_neg (by omega)])) (Chg.refl _ _))
  · obtain ⟨xb, xo, rfl, hxb, _, _⟩ := hv.at_ (i := 0) (by omega)
    have hcs : ∀ j v, ((List.range (n * 2)).map (pf (cA t) (cB t)))[j]? = some v → w.cell? ((⟨xb, xo, none⟩ : Addr).add j) = some v := by
      intro j v hj
      by_cases hjr : j < n * 2
      · rw [List.getElem?_map, List.getElem?_range hjr] at hj
        simp at hj
        subst hj
        rw [Go.WideShapes.add_plain]
        rcases (show j % 2 = 0 ∨ j % 2 = 1 by omega) with q | q
        · rw [show xo + j = xo + j / 2 * 2 by omega, hv.c0 (i := j / 2) (by omega)]
          unfold pf; rw [if_pos q]; rfl
        · rw [show xo + j = xo + j / 2 * 2 + 1 by omega, hv.c1 (i := j / 2) (by omega)]
          unfold pf; rw [if_neg (by omega)]; rfl
      · rw [List.getElem?_eq_none (by simp; omega)] at hj
        cases hj
    have hl := run_loadCells_list (P := Try.prog) w ⟨xb, xo, none⟩ _ hcs
    have hst := run_storeCells_at Try.prog g 0 87 ((List.range (n * 2)).map (pf (cA t) (cB t))) 0 (a8 u) w (rowA_of hr) (by rw [a8, rowA_size]; simp; omega) (by intro v hv; simp at hv; obtain ⟨j, _, rfl⟩ := hv; exact pf_one t j)
    have hlen : ((List.range (n * 2)).map (pf (cA t) (cB t))).length = n * 2 := by simp
    rw [hlen] at hl hst
    have hrun : (Builtin.copy_ #[24, 24] o.type #[.slice (some ⟨g, 0, none⟩) 8 8, .slice (some ⟨xb, xo, none⟩) n cap]).run Try.prog w = .ok (goInt n) (w.setRow g ((a8 u).toList.take (0 + 0) ++ ((List.range (n * 2)).map (pf (cA t) (cB t))) ++ (a8 u).toList.drop (0 + 0 + n * 2)).toArray) := by
      simp only [Builtin.copy_, run_underlying hu, Builtin.lenOf, Builtin.firstCells, sizeOf, typeInfo, hi, hz1, hmin, Sem.run_bind, Sem.run_pure, Result.andThen_ok]
      simp [run_underlying hu, typeInfo, hi, hz1, hmin, hl, hst]
    unfold Oper.wp
    simp only [execOp, ho, resolve, invoke, builtin, List.map_toArray, List.map_cons, List.map_nil, hd, hs]
    simp [hrun, Result.andThen]
    refine hK _ _ (h _ ?_ ?_)
    · refine ⟨_, setRow_heap w g _ _ 87 _ (rowA_of hr), ?_, fun i hi => ?_⟩
      · simp [a8, rowA_size]; omega
      · rw [List.getElem?_toArray]
        exact a8_copied n t u (by omega) i hi
    · refine ⟨rfl, rfl, rfl, by simp [World.setRow], fun k hk hp => ?_⟩
      simp only [World.setRow, Array.getElem?_modify]
      rw [if_neg (fun e => hp e.symm)]
end
/-- Differences, k times over. -/
def dfK (v : Nat → El) (k i : Nat) : El := if i < k then El.dif v i 0 else El.dif v k (i - k)
theorem dfK_zero (v : Nat → El) (i : Nat) : dfK v 0 i = v i := rfl
/-- The k-th time over, half done: from q on. -/
def dfQ (v : Nat → El) (n k q i : Nat) : El := if q ≤ i ∧ i < n then dfK v (k + 1) i else dfK v k i
theorem dfQ_start (v : Nat → El) (n k i : Nat) : dfQ v n k n i = dfK v k i := by unfold dfQ; rw [if_neg (by omega)]
theorem dfQ_own {v : Nat → El} {n k q i : Nat} (h : i < q) : dfQ v n k q i = dfK v k i := by unfold dfQ; rw [if_neg (by omega)]
theorem dfK_step {v : Nat → El} {k i : Nat} (h : k < i) : El.sb (dfK v k i) (dfK v k (i - 1)) = dfK v (k + 1) i := by
  unfold dfK
  rw [if_neg (by omega), if_neg (by omega), if_neg (by omega), show i - 1 - k = i - (k + 1) by omega, El.dif, show i - (k + 1) + 1 = i - k by omega]
theorem dfQ_step {v : Nat → El} {n k q : Nat} (hk : k < q) (hq : q < n) (i : Nat) : upE (dfQ v n k (q + 1)) q (dfK v (k + 1) q) i = dfQ v n k q i := by
  unfold upE dfQ
  by_cases e : i = q
  · subst e; rw [if_pos rfl, if_pos (by omega)]
  · rw [if_neg e]
    by_cases h : q + 1 ≤ i ∧ i < n
    · rw [if_pos h, if_pos (by omega)]
    · rw [if_neg h, if_neg (by omega)]
theorem dfQ_end {v : Nat → El} {n k i : Nat} (hi : i < n) : dfQ v n k (k + 1) i = dfK v (k + 1) i := by
  unfold dfQ
  by_cases h : k + 1 ≤ i
  · rw [if_pos ⟨h, hi⟩]
  · rw [if_neg (by omega)]
    unfold dfK
    by_cases h2 : i < k
    · rw [if_pos h2, if_pos (by omega)]
    · obtain rfl : i = k := by omega
      rw [if_neg (by omega), if_pos (by omega), Nat.sub_self]

end Go.Proofs.Ytmcdkmohjmcjbac

namespace Go.Proofs.Ytmcdkmohjmcjbac
open Go.ChangeShapes Go.WideShapes Go.ChangeAt Go.RowKit
set_option linter.unusedVariables false
set_option maxRecDepth 100000
set_option linter.unusedSimpArgs false

set_option maxHeartbeats 4000000 in
theorem diffs_any (c : Option Addr) (n cap : Nat) (v : Nat → El) (w : World) (h : Hid (PairE w c n v)) (hn : n ≤ 8) (hn1 : 1 ≤ n) : Calls Try.prog 95 #[.slice c n cap] w fun e w' => ∃ t, e = .returned (.agg (a8 t)) ∧ (∀ i, i < n → t i = El.dif v i 0) ∧ Chg nob w w' := by
  have hz := (zero_of_info info8).1
  go_enter Try.func95, Try.ntmps95
  go_wp2_with (first
    | ((with_reducible refine wpList_copy_a8 (.tmp 7) (.tmp 8) rfl rfl (w.heap.size + 1) c n cap ?hd ?hs (ArE.at_ (w.alloc (.cells (a8 zE) 87)) (w.heap.size + 1) (by simp) zE) (PairE.keep h.out (((Chg.refl nob w).alloc _).alloc _)) hn ?_); (case hd => rfl); (case hs => rfl); intro W1 r1 g1; have R1 := hik r1; have Z1 := hik (ArE.chg ((ArE.new w zE).keep ((Chg.refl nob _).alloc (.cells (a8 zE) 87))) g1 (by omega)); have G1 := hik (Chg.near (((Chg.refl nob w).alloc (.cells (a8 zE) 87)).alloc (.cells (a8 zE) 87)) g1 (fun i e => by omega)); clear r1 g1))
  clear hz
  go_loopw [5] (fun i W => ∃ (k K : Nat) (t : Nat → El), k < n ∧ i = .int .i64 (K : Int) ∧ Hid (K = k + 1) ∧ Hid (∀ i, i < n → t i = dfK v k i) ∧ Hid (ArE W (w.heap.size + 1) t) ∧ Hid (ArE W w.heap.size zE) ∧ Hid (Chg nob w W)) (fun i _ => n + 1 - (intOf i).toNat)
  case atStart => exact ⟨0, 1, fitE v n zE, by omega, rfl, hik rfl, hik (fun i hi => by unfold fitE; rw [if_pos hi, dfK_zero]), R1, Z1, G1⟩
  case round =>
    clear R1 Z1 G1
    obtain ⟨k, K, t, hk, rfl, HK, HT, HS, HZ, HG⟩ := hrel
    rename World => wo
    by_cases hlt : K < n
    · have hlt' : (K : Int) < (n : Int) := by omega
      have hwn : IntKind.i64.wrap ((n : Int) - 1) = (n : Int) - 1 := by rw [IntKind.wrap_i64]; omega
      go_wp2
      go_loopw [6] (fun i W => ∃ (q : Nat) (t : Nat → El), K ≤ q ∧ q ≤ n ∧ i = .int .i64 ((q : Int) - 1) ∧ Hid (∀ i, i < n → t i = dfQ v n k q i) ∧ Hid (ArE W (w.heap.size + 1) t) ∧ Hid (ArE W w.heap.size zE) ∧ Hid (Chg nob w W)) (fun i _ => (intOf i).toNat + 1)
      case atStart => exact ⟨n, t, Nat.le_of_lt hlt, Nat.le_refl _, rfl, hik (fun i hi => by rw [dfQ_start]; exact HT.out i hi), HS, HZ, HG⟩
      case round =>
        clear HT HS HZ HG
        obtain ⟨q, t, hq1, hq2, rfl, HT, HS, HZ, HG⟩ := hrel
        rename World => wi
        by_cases hql : K + 1 ≤ q
        · obtain ⟨j, rfl⟩ : ∃ j, q = j + 1 := ⟨q - 1, by omega⟩
          obtain ⟨p, rfl⟩ : ∃ p, j = p + 1 := ⟨j - 1, by have := HK.out; omega⟩
          obtain ⟨j, hj⟩ : ∃ j, j = p + 1 := ⟨_, rfl⟩
          rw [← hj] at HT hq1 hq2 hql ⊢
          rw [show (((j + 1 : Nat) : Int) - 1) = (j : Int) by omega]
          have HJ := hik hj
          have hjk : (K : Int) ≤ (j : Int) := by omega
          have hpj : p < j := by omega
          have hj8 : (j : Int) < 8 := by omega
          have hj0 : (0 : Int) ≤ (j : Int) := by omega
          have hp8 : (p : Int) < 8 := by omega
          have hp0 : (0 : Int) ≤ (p : Int) := by omega
          have hwp : IntKind.i64.wrap ((j : Int) - 1) = (p : Int) := by rw [IntKind.wrap_i64]; omega
          have hjn : j < n := by omega
          have hpn : p < n := by omega
          have hkj : k < j := by have := HK.out; omega
          clear hj
          have ej : t j = dfK v k j := by rw [HT.out j hjn]; exact dfQ_own (by omega)
          have ep : t p = dfK v k p := by rw [HT.out p hpn]; exact dfQ_own (by have := HJ.out; omega)
          have HN := hik (show El.sb (t j) (t p) = dfK v (k + 1) j by rw [ej, ep]; have e := dfK_step (v := v) hkj; rw [show j - 1 = p by have := HJ.out; omega] at e; exact e)
          clear ej ep
          have x0 := HS.out.c0 (k := j) (by omega)
          have x1 := HS.out.c1 (k := j) (by omega)
          have y0 := HS.out.c0 (k := p) (by omega)
          have y1 := HS.out.c1 (k := p) (by omega)
          go_wp2
          have KW := hik ((Chg.refl nob wi).drew1)
          have SA := hik (fun (WW : World) (kW : Chg nob wi WW) => (show (WW.cell? ⟨w.heap.size + 1, j * 2, none⟩ = some (.int .i64 (t j).v.1) ∧ WW.cell? ⟨w.heap.size + 1, j * 2 + 1, none⟩ = some (.int .i64 (t j).v.2) ∧ WW.cell? ⟨w.heap.size + 1, p * 2, none⟩ = some (.int .i64 (t p).v.1) ∧ WW.cell? ⟨w.heap.size + 1, p * 2 + 1, none⟩ = some (.int .i64 (t p).v.2)) from ⟨kW.see x0, kW.see x1, kW.see y0, kW.see y1⟩))
          refine wp_regionL (L := 10) (S := fun w' => w'.cell? ⟨w.heap.size + 1, j * 2, none⟩ = some (.int .i64 (t j).v.1) ∧ w'.cell? ⟨w.heap.size + 1, j * 2 + 1, none⟩ = some (.int .i64 (t j).v.2) ∧ w'.cell? ⟨w.heap.size + 1, p * 2, none⟩ = some (.int .i64 (t p).v.1) ∧ w'.cell? ⟨w.heap.size + 1, p * 2 + 1, none⟩ = some (.int .i64 (t p).v.2)) (by kernel_rfl) ⟨x0, x1, y0, y1⟩ (fun hHeld => ?_)
          refine wpAnyL_take (i := 0) (v := ?_) rfl (by kernel_rfl) (by kernel_rfl) (by kernel_rfl) (fun _ _ _ h => h) (by rfl) (by kernel_rfl) (by kernel_rfl) (Or.inl ⟨by rfl, ?_⟩) (by assumption) ?_
          rotate_left 1
          · (intro w' hSw; (try dsimp only at hSw); go_simp; try with_reducible rfl)
          try simp only [Act.put, List.setIfInBounds_toArray, List.set_cons_zero, List.set_cons_succ, List.getElem_toArray, List.getElem_cons_zero, List.getElem_cons_succ]
          refine wpAnyL_take (i := 1) (v := ?_) rfl (by kernel_rfl) (by kernel_rfl) (by kernel_rfl) (fun _ _ _ h => h) (by rfl) (by kernel_rfl) (by kernel_rfl) (Or.inl ⟨by rfl, ?_⟩) (by assumption) ?_
          rotate_left 1
          · (intro w' hSw; (try dsimp only at hSw); go_simp; try with_reducible rfl)
          try simp only [Act.put, List.setIfInBounds_toArray, List.set_cons_zero, List.set_cons_succ, List.getElem_toArray, List.getElem_cons_zero, List.getElem_cons_succ]
          refine wpAnyL_take (i := 2) (v := ?_) rfl (by kernel_rfl) (by kernel_rfl) (by kernel_rfl) (fun _ _ _ h => h) (by rfl) (by kernel_rfl) (by kernel_rfl) (Or.inl ⟨by rfl, ?_⟩) (by assumption) ?_
          rotate_left 1
          · (intro w' hSw; (try dsimp only at hSw); go_simp; try with_reducible rfl)
          try simp only [Act.put, List.setIfInBounds_toArray, List.set_cons_zero, List.set_cons_succ, List.getElem_toArray, List.getElem_cons_zero, List.getElem_cons_succ]
          refine wpAnyL_take (i := 3) (v := ?_) rfl (by kernel_rfl) (by kernel_rfl) (by kernel_rfl) (fun _ _ _ h => h) (by rfl) (by kernel_rfl) (by kernel_rfl) (Or.inl ⟨by rfl, ?_⟩) (by assumption) ?_
          rotate_left 1
          · (intro w' hSw; (try dsimp only at hSw); go_simp; try with_reducible rfl)
          try simp only [Act.put, List.setIfInBounds_toArray, List.set_cons_zero, List.set_cons_succ, List.getElem_toArray, List.getElem_cons_zero, List.getElem_cons_succ]
          refine wpAnyL_take (i := 4) (v := ?_) rfl (by kernel_rfl) (by kernel_rfl) (by kernel_rfl) (fun _ _ _ h => h) (by rfl) (by kernel_rfl) (by kernel_rfl) (Or.inl ⟨by rfl, ?_⟩) (by assumption) ?_
          rotate_left 1
          · (intro w' hSw; (try dsimp only at hSw); go_simp; try with_reducible rfl)
          try simp only [Act.put, List.setIfInBounds_toArray, List.set_cons_zero, List.set_cons_succ, List.getElem_toArray, List.getElem_cons_zero, List.getElem_cons_succ]
          refine wpAnyL_take (i := 5) (v := .int .i64 (p : Int)) rfl (by kernel_rfl) (by kernel_rfl) (by kernel_rfl) (fun _ _ _ h => h) (by rfl) (by kernel_rfl) (by kernel_rfl) (Or.inl ⟨by rfl, ?_⟩) (by assumption) ?_
          · (intro w' hSw; (try dsimp only at hSw); go_simp; first | done | exact hwp)
          try simp only [Act.put, List.setIfInBounds_toArray, List.set_cons_zero, List.set_cons_succ, List.getElem_toArray, List.getElem_cons_zero, List.getElem_cons_succ]
          refine wpAnyL_take (i := 6) (v := ?_) rfl (by kernel_rfl) (by kernel_rfl) (by kernel_rfl) (fun _ _ _ h => h) (by rfl) (by kernel_rfl) (by kernel_rfl) (Or.inl ⟨by rfl, ?_⟩) (by assumption) ?_
          rotate_left 1
          · (intro w' hSw; (try dsimp only at hSw); go_simp; try with_reducible rfl)
          try simp only [Act.put, List.setIfInBounds_toArray, List.set_cons_zero, List.set_cons_succ, List.getElem_toArray, List.getElem_cons_zero, List.getElem_cons_succ]
          refine wpAnyL_take (i := 7) (v := ?_) rfl (by kernel_rfl) (by kernel_rfl) (by kernel_rfl) (fun _ _ _ h => h) (by rfl) (by kernel_rfl) (by kernel_rfl) (Or.inl ⟨by rfl, ?_⟩) (by assumption) ?_
          rotate_left 1
          · (intro w' hSw; (try dsimp only at hSw); go_simp; try with_reducible rfl)
          try simp only [Act.put, List.setIfInBounds_toArray, List.set_cons_zero, List.set_cons_succ, List.getElem_toArray, List.getElem_cons_zero, List.getElem_cons_succ]
          refine wpAnyL_ready (rs := [8]) (by kernel_rfl) (by simp) ?_
          refine AllReadyL.cons rfl (fun K hK => ?_) AllReadyL.nil
          refine stepL_callN 85 #[.tmp 25, .tmp 29] #[31, 31] (by rfl) (by rfl) #[.agg #[.int .i64 (t j).v.1, .int .i64 (t j).v.2], .agg #[.int .i64 (t p).v.1, .int .i64 (t p).v.2]] (by simp only [List.map_toArray, List.map_cons, List.map_nil] <;> rfl) (run_go Try.func85 (by kernel_rfl) (by kernel_rfl) _ _) (sb_el (t j) (t p) _) ?_
          rintro e U1 ⟨he, kk⟩
          refine ⟨_, he, ?_⟩
          replace KW := hik (KW.out.trans kk)
          refine hK.out _ _ (SA.out _ KW.out) (fun hHeld => ?_)
          clear hK K
          try simp only [Act.put, List.setIfInBounds_toArray, List.set_cons_zero, List.set_cons_succ, List.getElem_toArray, List.getElem_cons_zero, List.getElem_cons_succ]
          clear he kk
          refine wpAnyL_take (i := 9) (v := ?_) rfl (by kernel_rfl) (by kernel_rfl) (by kernel_rfl) (fun _ _ _ h => h) (by rfl) (by kernel_rfl) (by kernel_rfl) (Or.inl ⟨by rfl, ?_⟩) (by assumption) ?_
          rotate_left 1
          · (intro w' hSw; (try dsimp only at hSw); go_simp; try with_reducible rfl)
          try simp only [Act.put, List.setIfInBounds_toArray, List.set_cons_zero, List.set_cons_succ, List.getElem_toArray, List.getElem_cons_zero, List.getElem_cons_succ]
          refine wpAnyL_ready (rs := [10]) (by kernel_rfl) (by simp) ?_
          refine AllReadyL.last rfl (by kernel_rfl) (fun K hK => ?_)
          have SN := hik (HS.out.keep KW.out)
          have g0 := SN.out.c0 (k := j) (by omega)
          have g1 := SN.out.c1 (k := j) (by omega)
          have f0 := SN.out.fz (j * 2)
          have f1 := SN.out.fz (j * 2 + 1)
          have ln : w.heap.size + 1 < U1.heap.size := SN.out.lt
          simp only [List.getElem_toArray, List.getElem_cons_zero, List.getElem_cons_succ]
          go_simp
          refine hK.out _ _ ?_
          clear hK K
          try simp only [Act.put, List.setIfInBounds_toArray, List.set_cons_zero, List.set_cons_succ, List.getElem_toArray, List.getElem_cons_zero, List.getElem_cons_succ]
          clear g0 g1 f0 f1 ln
          refine wpAnyL_done (by kernel_rfl) ?_ _
          have S2 := hik (SN.out.set j (El.sb (t j) (t p)))
          have Z2 := hik (ArE.other (HZ.out.keep KW.out) (g := w.heap.size + 1) (by omega) (j * 2) (j * 2 + 1) (.int .i64 (El.sb (t j) (t p)).v.1) (.int .i64 (El.sb (t j) (t p)).v.2))
          have G2 := hik (chg2_at (HG.out.trans KW.out) (w.heap.size + 1) (fun l => absurd l (by omega)) (j * 2) (j * 2 + 1) (.int .i64 (El.sb (t j) (t p)).v.1) (.int .i64 (El.sb (t j) (t p)).v.2))
          generalize hE : ((U1.setCell ⟨w.heap.size + 1, j * 2, none⟩ (.int .i64 (El.sb (t j) (t p)).v.1)).setCell ⟨w.heap.size + 1, j * 2 + 1, none⟩ (.int .i64 (El.sb (t j) (t p)).v.2)) = W2 at S2 Z2 G2 ⊢
          clear hE SN KW SA hHeld x0 x1 y0 y1 HS HZ HG
          have HT2 := hik (show ∀ i, i < n → upE t j (El.sb (t j) (t p)) i = dfQ v n k j i from fun i hi => by
            rw [HN.out, ← dfQ_step hkj hjn i]
            unfold upE
            by_cases e : i = j
            · rw [if_pos e, if_pos e]
            · rw [if_neg e, if_neg e]; exact HT.out i hi)
          go_wp2
          go_roundw
          case rel => exact ⟨j, _, by omega, by omega, by first | rfl | (have := HJ.out; congr 1; omega) | go_num, HT2, S2, Z2, G2⟩
          case measure => simp [intOf]; omega
        · obtain rfl : q = K := by omega
          have hc1 : ¬ (q : Int) ≤ ((q : Int) - 1) := by omega
          obtain ⟨K2, hK2⟩ : ∃ K2, K2 = q + 1 := ⟨_, rfl⟩
          have HK2 := hik hK2
          have hw2 : IntKind.i64.wrap ((q : Int) + 1) = (K2 : Int) := by rw [IntKind.wrap_i64]; omega
          have hm2 : n + 1 - K2 < n + 1 - q := by omega
          clear hK2
          go_wp2
          go_roundw
          case rel => exact ⟨k + 1, K2, t, by have := HK.out; omega, by first | rfl | go_num, hik (by rw [HK2.out, HK.out]), hik (fun i hi => by rw [HT.out i hi, HK.out]; exact dfQ_end hi), HS, HZ, HG⟩
          case measure => simp [intOf]; omega
    · have hc : ¬ (K : Int) < (n : Int) := by omega
      go_wp2_with (first
        | ((with_reducible refine wpList_load_a8 (.tmp 3) rfl rfl (w.heap.size + 1) ?hx HS.out ?_); (case hx => rfl))
        | ((with_reducible refine wpList_store_a8 (t := t) (.tmp 2) (.tmp 32) rfl rfl w.heap.size ?hx ?hy HZ.out ?_); (case hx => rfl); (case hy => rfl); intro W3 r3 g3; have R3 := hik r3; have G3 := hik (Chg.near HG.out g3 (fun i e => by omega)); clear r3 g3))
      exact bodyPost_ret (results_a8 rfl _ _ w.heap.size rfl R3.out) rfl ⟨t, rfl, fun i hi => by
        rw [HT.out i hi]
        unfold dfK
        by_cases e : i < k
        · rw [if_pos e]
        · obtain rfl : i = k := by have := HK.out; omega
          rw [if_neg e, Nat.sub_self], G3.out⟩

theorem sb_nb (x : El) (j : Nat) (hj : j < 100) (w : World) : Calls Try.prog 85 #[.agg #[.int .i64 x.v.1, .int .i64 x.v.2], .agg #[.int .i64 (j : Int), .int .i64 0]] w fun e w' => e = .returned (.agg #[.int .i64 (El.sb x (El.nb j)).v.1, .int .i64 (El.sb x (El.nb j)).v.2]) ∧ Chg nob w w' := by
  have h := sb_el x (El.nb j) w
  rw [nb_v hj, nb_w] at h
  exact h

theorem inv_nb (j : Nat) (hj : j < 100) (w : World) : Calls Try.prog 96 #[.agg #[.int .i64 (j : Int), .int .i64 0]] w fun e w' => e = .returned (.agg #[.int .i64 (El.inv (El.nb j)).v.1, .int .i64 (El.inv (El.nb j)).v.2]) ∧ Chg nob w w' := by
  have x := El.nb j
  have h := extInv_any (El.nb j).v.1 (El.nb j).v.2 w (El.nb j).lo1 (El.nb j).hi1 (El.nb j).lo2 (El.nb j).hi2
  have e1 : (El.inv (El.nb j)).v.1 = Fld.iA (El.nb j).v.1 (El.nb j).v.2 := rfl
  have e2 : (El.inv (El.nb j)).v.2 = Fld.iB (El.nb j).v.1 (El.nb j).v.2 := rfl
  rw [← e1, ← e2, nb_v hj, nb_w] at h
  exact h

set_option maxHeartbeats 4000000 in
theorem lineAt_any (x : El) (c : Option Addr) (n cap : Nat) (v : Nat → El) (w : World) (h : Hid (PairE w c n v)) (hn : n ≤ 8) (hn1 : 1 ≤ n) : Calls Try.prog 61 #[.agg #[.int .i64 x.v.1, .int .i64 x.v.2], .slice c n cap] w fun e w' => e = .returned (.agg #[.int .i64 (El.lag v x n).v.1, .int .i64 (El.lag v x n).v.2]) ∧ Chg nob w w' := by
  have hz := (zero_of_info info8).1
  obtain ⟨D, hD⟩ : ∃ D, D = fun s => El.dif v s 0 := ⟨_, rfl⟩
  have HV := hik (show El.lag v x n = El.nwt D x 0 n by rw [hD]; exact (El.nwt_lag v x (by omega)).symm)
  rw [HV.out]
  have HD := hik (show ∀ i, El.dif v i 0 = D i from fun i => by rw [hD])
  clear hD
  have hwn : IntKind.i64.wrap ((n : Int) - 1) = (n : Int) - 1 := by rw [IntKind.wrap_i64]; omega
  go_enter Try.func61, Try.ntmps61
  go_wp2_with (first
    | (go_at_call 95; refine (diffs_any c n cap v _ (hik (PairE.keep h.out ((((Chg.refl nob w).alloc _).alloc _).alloc _))) hn hn1).mono ?_; rintro e W1 ⟨t, rfl, ht, k1⟩; have HT := hik ht; have X1 := hik ((((ElB.new w x).keep ((Chg.refl nob _).alloc (.cells #[.int .i64 0, .int .i64 0] 31))).keep ((Chg.refl nob _).alloc (.cells #[.int .i64 0, .int .i64 0] 31))).keep k1); have R1 := hik (ElB.keep (ElB.keep (by simpa using ElB.zero (w.alloc (.cells #[.int .i64 x.v.1, .int .i64 x.v.2] 31)) : ElB ((w.alloc (.cells #[.int .i64 x.v.1, .int .i64 x.v.2] 31)).alloc (.cells #[.int .i64 0, .int .i64 0] 31)) (w.heap.size + 1) El.zr) ((Chg.refl nob _).alloc (.cells #[.int .i64 0, .int .i64 0] 31))) k1); have Y1 := hik (ElB.keep (by simpa using ElB.zero ((w.alloc (.cells #[.int .i64 x.v.1, .int .i64 x.v.2] 31)).alloc (.cells #[.int .i64 0, .int .i64 0] 31)) : ElB (((w.alloc (.cells #[.int .i64 x.v.1, .int .i64 x.v.2] 31)).alloc (.cells #[.int .i64 0, .int .i64 0] 31)).alloc (.cells #[.int .i64 0, .int .i64 0] 31)) (w.heap.size + 1 + 1) El.zr) k1); have G1 := hik (((((Chg.refl nob w).alloc _).alloc _).alloc _).trans k1); clear k1 ht)
    | ((with_reducible refine wpList_store_a8 (t := t) (.tmp 6) (.tmp 11) rfl rfl W1.heap.size ?hx ?hy (ArE.new W1 zE) ?_); (case hx => rfl); (case hy => rfl); intro W2 r2 g2; have D2 := hik r2; have hl1 : w.heap.size + 1 + 1 < W1.heap.size := Y1.out.lt; have X2 := hik ((X1.out.keep ((Chg.refl nob _).alloc (.cells (a8 zE) 87))).chg g2 (by omega)); have R2 := hik ((R1.out.keep ((Chg.refl nob _).alloc (.cells (a8 zE) 87))).chg g2 (by omega)); have Y2 := hik ((Y1.out.keep ((Chg.refl nob _).alloc (.cells (a8 zE) 87))).chg g2 (by omega)); have G2 := hik (Chg.near (G1.out.alloc (.cells (a8 zE) 87)) g2 (fun i e => by omega)); clear r2 g2))
  clear hz
  go_loopw [7] (fun i W => ∃ m : Nat, m ≤ n ∧ i = .int .i64 ((m : Int) - 1) ∧ Hid (ElB W (w.heap.size + 1 + 1) (El.nwt D x m (n - m))) ∧ Hid (ElB W w.heap.size x) ∧ Hid (ElB W (w.heap.size + 1) El.zr) ∧ Hid (ArE W W1.heap.size t) ∧ Hid (Chg nob w W)) (fun i _ => (intOf i + 1).toNat)
  case atStart => exact ⟨n, Nat.le_refl _, rfl, hik (by rw [Nat.sub_self]; exact Y2.out), X2, R2, D2, G2⟩
  case round =>
    clear X1 R1 Y1 G1 X2 R2 Y2 D2 G2
    obtain ⟨m, hm, rfl, HY, HX, HR, HA, HG⟩ := hrel
    rename World => wi
    by_cases hm0 : 0 < m
    · obtain ⟨j, rfl⟩ : ∃ j, m = j + 1 := ⟨m - 1, by omega⟩
      rw [show (((j + 1 : Nat) : Int) - 1) = (j : Int) by omega]
      obtain ⟨J, hJ⟩ : ∃ J, J = j + 1 := ⟨_, rfl⟩
      rw [← hJ] at HY hm hm0
      have HJ := hik hJ
      have hj0 : (0 : Int) ≤ (j : Int) := by omega
      have hj8 : (j : Int) < 8 := by omega
      have hwJ : IntKind.i64.wrap ((j : Int) + 1) = (J : Int) := by rw [IntKind.wrap_i64]; omega
      have hwj : IntKind.i64.wrap ((j : Int) - 1) = (j : Int) - 1 := by rw [IntKind.wrap_i64]; omega
      have hjn : j < n := by omega
      have hJ100 : J < 100 := by omega
      have hmj : j < J := by omega
      have hsub : n - j = (n - J) + 1 := by omega
      have HSUB := hik hsub
      clear hJ hsub
      have x0 := HX.out.c0
      have x1 := HX.out.c1
      go_wp2_with fail
      refine (sb_nb x j (by omega) _).mono ?_
      rintro e U1 ⟨rfl, k1⟩
      go_wp2_with fail
      refine (inv_nb J hJ100 _).mono ?_
      rintro e U2 ⟨rfl, k2⟩
      go_wp2_with fail
      refine (ml_el (El.sb x (El.nb j)) (El.inv (El.nb J)) _).mono ?_
      rintro e U3 ⟨rfl, k3⟩
      have kA := hik (((k1.trans k2).trans k3).alloc (.cells #[.int .i64 (El.ml (El.sb x (El.nb j)) (El.inv (El.nb J))).v.1, .int .i64 (El.ml (El.sb x (El.nb j)) (El.inv (El.nb J))).v.2] 31))
      have S3 := hik (ElB.new U3 (El.ml (El.sb x (El.nb j)) (El.inv (El.nb J))))
      have Y3 := hik (HY.out.keep kA.out)
      have X3 := hik (HX.out.keep kA.out)
      have R3 := hik (HR.out.keep kA.out)
      have A3 := hik (HA.out.keep kA.out)
      have G3 := hik (HG.out.trans kA.out)
      have hl3 : w.heap.size + 1 + 1 < U3.heap.size := (HY.out.keep ((k1.trans k2).trans k3)).lt
      have hl4 : W1.heap.size < U3.heap.size := (HA.out.keep ((k1.trans k2).trans k3)).lt
      clear k1 k2 k3 kA HY HX HR HA HG x0 x1
      obtain ⟨V3, hV3⟩ : ∃ V3, V3 = U3.alloc (.cells #[.int .i64 (El.ml (El.sb x (El.nb j)) (El.inv (El.nb J))).v.1, .int .i64 (El.ml (El.sb x (El.nb j)) (El.inv (El.nb J))).v.2] 31) := ⟨_, rfl⟩
      rw [← hV3] at S3 Y3 X3 R3 A3 G3
      have y0 := Y3.out.c0
      have y1 := Y3.out.c1
      have s0 := S3.out.c0
      have s1 := S3.out.c1
      have d0 := A3.out.c0 (k := j) (by omega)
      have d1 := A3.out.c1 (k := j) (by omega)
      have hgo := hV3.symm
      clear hV3
      go_wp2
      have KW := hik ((Chg.refl nob V3).drew1)
      have SA := hik (fun (WW : World) (kW : Chg nob V3 WW) => (show (WW.cell? ⟨w.heap.size + 1 + 1, 0, none⟩ = some (.int .i64 (El.nwt D x J (n - J)).v.1) ∧ WW.cell? ⟨w.heap.size + 1 + 1, 1, none⟩ = some (.int .i64 (El.nwt D x J (n - J)).v.2) ∧ WW.cell? ⟨U3.heap.size, 0, none⟩ = some (.int .i64 (El.ml (El.sb x (El.nb j)) (El.inv (El.nb J))).v.1) ∧ WW.cell? ⟨U3.heap.size, 1, none⟩ = some (.int .i64 (El.ml (El.sb x (El.nb j)) (El.inv (El.nb J))).v.2) ∧ WW.cell? ⟨W1.heap.size, j * 2, none⟩ = some (.int .i64 (t j).v.1) ∧ WW.cell? ⟨W1.heap.size, j * 2 + 1, none⟩ = some (.int .i64 (t j).v.2)) from ⟨kW.see y0, kW.see y1, kW.see s0, kW.see s1, kW.see d0, kW.see d1⟩))
      refine wp_regionL (L := 7) (S := fun w' => w'.cell? ⟨w.heap.size + 1 + 1, 0, none⟩ = some (.int .i64 (El.nwt D x J (n - J)).v.1) ∧ w'.cell? ⟨w.heap.size + 1 + 1, 1, none⟩ = some (.int .i64 (El.nwt D x J (n - J)).v.2) ∧ w'.cell? ⟨U3.heap.size, 0, none⟩ = some (.int .i64 (El.ml (El.sb x (El.nb j)) (El.inv (El.nb J))).v.1) ∧ w'.cell? ⟨U3.heap.size, 1, none⟩ = some (.int .i64 (El.ml (El.sb x (El.nb j)) (El.inv (El.nb J))).v.2) ∧ w'.cell? ⟨W1.heap.size, j * 2, none⟩ = some (.int .i64 (t j).v.1) ∧ w'.cell? ⟨W1.heap.size, j * 2 + 1, none⟩ = some (.int .i64 (t j).v.2)) (by kernel_rfl) ⟨y0, y1, s0, s1, d0, d1⟩ (fun hHeld => ?_)
      refine wpAnyL_take (i := 0) (v := ?_) rfl (by kernel_rfl) (by kernel_rfl) (by kernel_rfl) (fun _ _ _ h => h) (by rfl) (by kernel_rfl) (by kernel_rfl) (Or.inl ⟨by rfl, ?_⟩) (by assumption) ?_
      rotate_left 1
      · (intro w' hSw; (try dsimp only at hSw); go_simp; try with_reducible rfl)
      try simp only [Act.put, List.setIfInBounds_toArray, List.set_cons_zero, List.set_cons_succ, List.getElem_toArray, List.getElem_cons_zero, List.getElem_cons_succ]
      refine wpAnyL_take (i := 1) (v := ?_) rfl (by kernel_rfl) (by kernel_rfl) (by kernel_rfl) (fun _ _ _ h => h) (by rfl) (by kernel_rfl) (by kernel_rfl) (Or.inl ⟨by rfl, ?_⟩) (by assumption) ?_
      rotate_left 1
      · (intro w' hSw; (try dsimp only at hSw); go_simp; try with_reducible rfl)
      try simp only [Act.put, List.setIfInBounds_toArray, List.set_cons_zero, List.set_cons_succ, List.getElem_toArray, List.getElem_cons_zero, List.getElem_cons_succ]
      refine wpAnyL_take (i := 2) (v := ?_) rfl (by kernel_rfl) (by kernel_rfl) (by kernel_rfl) (fun _ _ _ h => h) (by rfl) (by kernel_rfl) (by kernel_rfl) (Or.inl ⟨by rfl, ?_⟩) (by assumption) ?_
      rotate_left 1
      · (intro w' hSw; (try dsimp only at hSw); go_simp; try with_reducible rfl)
      try simp only [Act.put, List.setIfInBounds_toArray, List.set_cons_zero, List.set_cons_succ, List.getElem_toArray, List.getElem_cons_zero, List.getElem_cons_succ]
      refine wpAnyL_take (i := 3) (v := ?_) rfl (by kernel_rfl) (by kernel_rfl) (by kernel_rfl) (fun _ _ _ h => h) (by rfl) (by kernel_rfl) (by kernel_rfl) (Or.inl ⟨by rfl, ?_⟩) (by assumption) ?_
      rotate_left 1
      · (intro w' hSw; (try dsimp only at hSw); go_simp; try with_reducible rfl)
      try simp only [Act.put, List.setIfInBounds_toArray, List.set_cons_zero, List.set_cons_succ, List.getElem_toArray, List.getElem_cons_zero, List.getElem_cons_succ]
      refine wpAnyL_take (i := 4) (v := ?_) rfl (by kernel_rfl) (by kernel_rfl) (by kernel_rfl) (fun _ _ _ h => h) (by rfl) (by kernel_rfl) (by kernel_rfl) (Or.inl ⟨by rfl, ?_⟩) (by assumption) ?_
      rotate_left 1
      · (intro w' hSw; (try dsimp only at hSw); go_simp; try with_reducible rfl)
      try simp only [Act.put, List.setIfInBounds_toArray, List.set_cons_zero, List.set_cons_succ, List.getElem_toArray, List.getElem_cons_zero, List.getElem_cons_succ]
      refine wpAnyL_ready (rs := [5]) (by kernel_rfl) (by simp) ?_
      refine AllReadyL.cons rfl (fun K hK => ?_) AllReadyL.nil
      refine stepL_callN 48 #[.tmp 31, .tmp 32] #[31, 31] (by rfl) (by rfl) #[.agg #[.int .i64 (El.ml (El.sb x (El.nb j)) (El.inv (El.nb J))).v.1, .int .i64 (El.ml (El.sb x (El.nb j)) (El.inv (El.nb J))).v.2], .agg #[.int .i64 (El.nwt D x J (n - J)).v.1, .int .i64 (El.nwt D x J (n - J)).v.2]] (by simp only [List.map_toArray, List.map_cons, List.map_nil] <;> rfl) (run_go Try.func48 (by kernel_rfl) (by kernel_rfl) _ _) (ml_el (El.ml (El.sb x (El.nb j)) (El.inv (El.nb J))) (El.nwt D x J (n - J)) _) ?_
      rintro e Q1 ⟨he, kk⟩
      refine ⟨_, he, ?_⟩
      replace KW := hik (KW.out.trans kk)
      refine hK.out _ _ (SA.out _ KW.out) (fun hHeld => ?_)
      clear hK K
      try simp only [Act.put, List.setIfInBounds_toArray, List.set_cons_zero, List.set_cons_succ, List.getElem_toArray, List.getElem_cons_zero, List.getElem_cons_succ]
      clear he kk
      refine wpAnyL_ready (rs := [6]) (by kernel_rfl) (by simp) ?_
      refine AllReadyL.cons rfl (fun K hK => ?_) AllReadyL.nil
      refine stepL_callN 47 #[.tmp 30, .tmp 33] #[31, 31] (by rfl) (by rfl) #[.agg #[.int .i64 (t j).v.1, .int .i64 (t j).v.2], .agg #[.int .i64 (El.ml (El.ml (El.sb x (El.nb j)) (El.inv (El.nb J))) (El.nwt D x J (n - J))).v.1, .int .i64 (El.ml (El.ml (El.sb x (El.nb j)) (El.inv (El.nb J))) (El.nwt D x J (n - J))).v.2]] (by simp only [List.map_toArray, List.map_cons, List.map_nil] <;> rfl) (run_go Try.func47 (by kernel_rfl) (by kernel_rfl) _ _) (ad_el (t j) (El.ml (El.ml (El.sb x (El.nb j)) (El.inv (El.nb J))) (El.nwt D x J (n - J))) _) ?_
      rintro e Q2 ⟨he, kk⟩
      refine ⟨_, he, ?_⟩
      replace KW := hik (KW.out.trans kk)
      refine hK.out _ _ (SA.out _ KW.out) (fun hHeld => ?_)
      clear hK K
      try simp only [Act.put, List.setIfInBounds_toArray, List.set_cons_zero, List.set_cons_succ, List.getElem_toArray, List.getElem_cons_zero, List.getElem_cons_succ]
      clear he kk
      refine wpAnyL_ready (rs := [7]) (by kernel_rfl) (by simp) ?_
      refine AllReadyL.last rfl (by kernel_rfl) (fun K hK => ?_)
      have EN := hik (Y3.out.keep KW.out)
      have g0 := EN.out.c0
      have g1 := EN.out.c1
      have f0 := EN.out.fz 0
      have f1 := EN.out.fz 1
      have ln : w.heap.size + 1 + 1 < Q2.heap.size := EN.out.lt
      simp only [List.getElem_toArray, List.getElem_cons_zero, List.getElem_cons_succ]
      go_simp
      refine hK.out _ _ ?_
      clear hK K
      try simp only [Act.put, List.setIfInBounds_toArray, List.set_cons_zero, List.set_cons_succ, List.getElem_toArray, List.getElem_cons_zero, List.getElem_cons_succ]
      clear g0 g1 f0 f1 ln
      refine wpAnyL_done (by kernel_rfl) ?_ _
      have E2 := hik (show ElB ((Q2.setCell ⟨w.heap.size + 1 + 1, 0, none⟩ (.int .i64 (El.ad (t j) (El.ml (El.ml (El.sb x (El.nb j)) (El.inv (El.nb J))) (El.nwt D x J (n - J)))).v.1)).setCell ⟨w.heap.size + 1 + 1, 1, none⟩ (.int .i64 (El.ad (t j) (El.ml (El.ml (El.sb x (El.nb j)) (El.inv (El.nb J))) (El.nwt D x J (n - J)))).v.2)) (w.heap.size + 1 + 1) (El.nwt D x j (n - j)) by
        have q := EN.out.set (El.ad (t j) (El.ml (El.ml (El.sb x (El.nb j)) (El.inv (El.nb J))) (El.nwt D x J (n - J))))
        rw [HSUB.out, El.nwt, ← HD.out j, ← HT.out j hjn, ← HJ.out]
        exact q)
      have X5 := hik (ElB.other (X3.out.keep KW.out) (g := w.heap.size + 1 + 1) (by omega) 0 1 (.int .i64 (El.ad (t j) (El.ml (El.ml (El.sb x (El.nb j)) (El.inv (El.nb J))) (El.nwt D x J (n - J)))).v.1) (.int .i64 (El.ad (t j) (El.ml (El.ml (El.sb x (El.nb j)) (El.inv (El.nb J))) (El.nwt D x J (n - J)))).v.2))
      have R5 := hik (ElB.other (R3.out.keep KW.out) (g := w.heap.size + 1 + 1) (by omega) 0 1 (.int .i64 (El.ad (t j) (El.ml (El.ml (El.sb x (El.nb j)) (El.inv (El.nb J))) (El.nwt D x J (n - J)))).v.1) (.int .i64 (El.ad (t j) (El.ml (El.ml (El.sb x (El.nb j)) (El.inv (El.nb J))) (El.nwt D x J (n - J)))).v.2))
      have A5 := hik (ArE.other (A3.out.keep KW.out) (g := w.heap.size + 1 + 1) (by omega) 0 1 (.int .i64 (El.ad (t j) (El.ml (El.ml (El.sb x (El.nb j)) (El.inv (El.nb J))) (El.nwt D x J (n - J)))).v.1) (.int .i64 (El.ad (t j) (El.ml (El.ml (El.sb x (El.nb j)) (El.inv (El.nb J))) (El.nwt D x J (n - J)))).v.2))
      have G5 := hik (chg2_at (G3.out.trans KW.out) (w.heap.size + 1 + 1) (fun l => absurd l (by omega)) 0 1 (.int .i64 (El.ad (t j) (El.ml (El.ml (El.sb x (El.nb j)) (El.inv (El.nb J))) (El.nwt D x J (n - J)))).v.1) (.int .i64 (El.ad (t j) (El.ml (El.ml (El.sb x (El.nb j)) (El.inv (El.nb J))) (El.nwt D x J (n - J)))).v.2))
      generalize hE : ((Q2.setCell ⟨w.heap.size + 1 + 1, 0, none⟩ (.int .i64 (El.ad (t j) (El.ml (El.ml (El.sb x (El.nb j)) (El.inv (El.nb J))) (El.nwt D x J (n - J)))).v.1)).setCell ⟨w.heap.size + 1 + 1, 1, none⟩ (.int .i64 (El.ad (t j) (El.ml (El.ml (El.sb x (El.nb j)) (El.inv (El.nb J))) (El.nwt D x J (n - J)))).v.2)) = W5 at E2 X5 R5 A5 G5 ⊢
      clear hE EN KW SA hHeld y0 y1 s0 s1 d0 d1 S3 Y3 X3 R3 A3 G3 hgo
      go_wp2
      go_roundw
      case rel => exact ⟨j, by omega, by first | rfl | go_num, E2, X5, R5, A5, G5⟩
      case measure => simp [intOf]
    · obtain rfl : m = 0 := by omega
      have HY2 := hik (show ElB wi (w.heap.size + 1 + 1) (El.nwt D x 0 n) from HY.out)
      clear HY
      have e0 := HY2.out.c0
      have e1 := HY2.out.c1
      have c0 : wi.cell? ⟨w.heap.size + 1, 0, none⟩ = some (.int .i64 0) := HR.out.c0
      have c1 : wi.cell? ⟨w.heap.size + 1, 1, none⟩ = some (.int .i64 0) := HR.out.c1
      have f0 := HR.out.fz 0
      have f1 := HR.out.fz 1
      go_wp2
      have u0 := (HR.out.set (El.nwt D x 0 n)).c0
      have u1 := (HR.out.set (El.nwt D x 0 n)).c1
      exact bodyPost_ret (v := .agg #[.int .i64 (El.nwt D x 0 n).v.1, .int .i64 (El.nwt D x 0 n).v.2]) (by simp [results, Try.results61, go_sem, u0, u1]) rfl ⟨rfl, chg2_at HG.out (w.heap.size + 1) (fun l => absurd l (by omega)) 0 1 _ _⟩

end Go.Proofs.Ytmcdkmohjmcjbac

namespace Go.Proofs.Ytmcdkmohjmcjbac
open Go.ChangeShapes Go.WideShapes Go.ChangeAt Go.RowKit
set_option linter.unusedVariables false
set_option maxRecDepth 100000
set_option linter.unusedSimpArgs false

def lnc (f g : Nat → Int) (n : Nat) (a b : Int) : Int := if 4096 < n then 2 else if okP f g n && eok a b then (if 1 ≤ n ∧ n ≤ 8 then 0 else 8) else 1
def lnv (f g : Nat → Int) (n : Nat) (a b : Int) : El := if lnc f g n a b = 0 then El.lag (elF f g) (elP a b) n else El.zr

end Go.Proofs.Ytmcdkmohjmcjbac

namespace Go.Proofs.Ytmcdkmohjmcjbac
open Go.ChangeShapes Go.WideShapes Go.ChangeAt Go.RowKit
set_option linter.unusedVariables false
set_option maxRecDepth 100000
set_option linter.unusedSimpArgs false

set_option maxHeartbeats 2000000 in
theorem lineX_any (c : Option Addr) (n cap : Nat) (f g : Nat → Int) (a b : Int) (w : World) (h : Hid (PairV w c n f g)) (hn : n ≤ 1099511627776) :
    Calls Try.prog 27 #[.slice c n cap, .agg #[.int .i64 a, .int .i64 b]] w fun e w' => e = .returned (.tuple #[.agg #[.int .i64 (lnv f g n a b).v.1, .int .i64 (lnv f g n a b).v.2], .int .i64 (lnc f g n a b)]) ∧ Chg nob w w' := by
  by_cases hl : 4096 < n
  · have hl' : 4096 < (n : Int) := by omega
    have HC := hik (show lnc f g n a b = 2 by unfold lnc; rw [if_pos hl])
    have HV := hik (show lnv f g n a b = El.zr by unfold lnv; rw [HC.out]; rfl)
    rw [HC.out, HV.out]
    go_enter Try.func27, Try.ntmps27
    go_wp2
    exact bodyPost_ret (v := .tuple #[.agg #[.int .i64 0, .int .i64 0], .int .i64 2]) (by simp [results, Try.results27, go_sem]) rfl ⟨rfl, ((Chg.refl nob w).alloc _).alloc _⟩
  have hl' : ¬ 4096 < (n : Int) := by omega
  cases hk1 : okP f g n
  · have HC := hik (show lnc f g n a b = 1 by unfold lnc; rw [if_neg hl, hk1]; rfl)
    have HV := hik (show lnv f g n a b = El.zr by unfold lnv; rw [HC.out]; rfl)
    rw [HC.out, HV.out]
    go_enter Try.func27, Try.ntmps27
    go_wp2_with (go_at_call 56; refine (extsOK_any c n cap f g _ (hik (h.out.keep (((Chg.refl nob w).alloc _).alloc _))) hn).mono ?_; rintro e W1 ⟨he, k1⟩; rw [hk1] at he; subst he; have R1 := hik (ElB.keep (by simpa using ElB.zero (w.alloc (.cells #[.int .i64 a, .int .i64 b] 31)) : ElB ((w.alloc (.cells #[.int .i64 a, .int .i64 b] 31)).alloc (.cells #[.int .i64 0, .int .i64 0] 31)) (w.heap.size + 1) El.zr) k1); have E1 := hik (((Elem.new w a b 31).keep ((Chg.refl nob _).alloc (.cells #[.int .i64 0, .int .i64 0] 31))).keep k1); have K1 := hik ((((Chg.refl nob w).alloc _).alloc _).trans k1); clear k1; have c0 : W1.cell? ⟨w.heap.size + 1, 0, none⟩ = some (.int .i64 0) := R1.out.c0; have c1 : W1.cell? ⟨w.heap.size + 1, 1, none⟩ = some (.int .i64 0) := R1.out.c1; have f0 := R1.out.fz 0; have f1 := R1.out.fz 1; have a0 := E1.out.c0; have a1 := E1.out.c1)
    have u0 : ((W1.setCell ⟨w.heap.size + 1, 0, none⟩ (.int .i64 0)).setCell ⟨w.heap.size + 1, 1, none⟩ (.int .i64 0)).cell? ⟨w.heap.size + 1, 0, none⟩ = some (.int .i64 0) := (R1.out.set El.zr).c0
    have u1 : ((W1.setCell ⟨w.heap.size + 1, 0, none⟩ (.int .i64 0)).setCell ⟨w.heap.size + 1, 1, none⟩ (.int .i64 0)).cell? ⟨w.heap.size + 1, 1, none⟩ = some (.int .i64 0) := (R1.out.set El.zr).c1
    exact bodyPost_ret (v := .tuple #[.agg #[.int .i64 0, .int .i64 0], .int .i64 1]) (by simp [results, Try.results27, go_sem, u0, u1]) rfl ⟨rfl, chg2_at K1.out (w.heap.size + 1) (fun l => absurd l (by omega)) 0 1 (.int .i64 0) (.int .i64 0)⟩
  cases hk2 : eok a b
  · have HC := hik (show lnc f g n a b = 1 by unfold lnc; rw [if_neg hl, hk1, hk2]; rfl)
    have HV := hik (show lnv f g n a b = El.zr by unfold lnv; rw [HC.out]; rfl)
    rw [HC.out, HV.out]
    go_enter Try.func27, Try.ntmps27
    go_wp2_with (first | (go_at_call 56; refine (extsOK_any c n cap f g _ (hik (h.out.keep (((Chg.refl nob w).alloc _).alloc _))) hn).mono ?_; rintro e W1 ⟨he, k1⟩; rw [hk1] at he; subst he; have R1 := hik (ElB.keep (by simpa using ElB.zero (w.alloc (.cells #[.int .i64 a, .int .i64 b] 31)) : ElB ((w.alloc (.cells #[.int .i64 a, .int .i64 b] 31)).alloc (.cells #[.int .i64 0, .int .i64 0] 31)) (w.heap.size + 1) El.zr) k1); have E1 := hik (((Elem.new w a b 31).keep ((Chg.refl nob _).alloc (.cells #[.int .i64 0, .int .i64 0] 31))).keep k1); have K1 := hik ((((Chg.refl nob w).alloc _).alloc _).trans k1); clear k1; have c0 : W1.cell? ⟨w.heap.size + 1, 0, none⟩ = some (.int .i64 0) := R1.out.c0; have c1 : W1.cell? ⟨w.heap.size + 1, 1, none⟩ = some (.int .i64 0) := R1.out.c1; have f0 := R1.out.fz 0; have f1 := R1.out.fz 1; have a0 := E1.out.c0; have a1 := E1.out.c1) | (go_at_call 46; refine (extOK_any a b _).mono ?_; rintro e W2 ⟨he, k2⟩; rw [hk2] at he; subst he; have R2 := hik (R1.out.keep k2); have E2 := hik (E1.out.keep k2); have K2 := hik (K1.out.trans k2); clear k2 c0 c1 f0 f1 a0 a1; have c0 : W2.cell? ⟨w.heap.size + 1, 0, none⟩ = some (.int .i64 0) := R2.out.c0; have c1 : W2.cell? ⟨w.heap.size + 1, 1, none⟩ = some (.int .i64 0) := R2.out.c1; have f0 := R2.out.fz 0; have f1 := R2.out.fz 1; have a0 := E2.out.c0; have a1 := E2.out.c1))
    have u0 : ((W2.setCell ⟨w.heap.size + 1, 0, none⟩ (.int .i64 0)).setCell ⟨w.heap.size + 1, 1, none⟩ (.int .i64 0)).cell? ⟨w.heap.size + 1, 0, none⟩ = some (.int .i64 0) := (R2.out.set El.zr).c0
    have u1 : ((W2.setCell ⟨w.heap.size + 1, 0, none⟩ (.int .i64 0)).setCell ⟨w.heap.size + 1, 1, none⟩ (.int .i64 0)).cell? ⟨w.heap.size + 1, 1, none⟩ = some (.int .i64 0) := (R2.out.set El.zr).c1
    exact bodyPost_ret (v := .tuple #[.agg #[.int .i64 0, .int .i64 0], .int .i64 1]) (by simp [results, Try.results27, go_sem, u0, u1]) rfl ⟨rfl, chg2_at K2.out (w.heap.size + 1) (fun l => absurd l (by omega)) 0 1 (.int .i64 0) (.int .i64 0)⟩
  by_cases hs1 : n < 1
  · have HC := hik (show lnc f g n a b = 8 by unfold lnc; rw [if_neg hl, hk1, hk2]; simp; omega)
    have hs1' : (n : Int) < 1 := by omega
    have HV := hik (show lnv f g n a b = El.zr by unfold lnv; rw [HC.out]; rfl)
    rw [HC.out, HV.out]
    go_enter Try.func27, Try.ntmps27
    go_wp2_with (first | (go_at_call 56; refine (extsOK_any c n cap f g _ (hik (h.out.keep (((Chg.refl nob w).alloc _).alloc _))) hn).mono ?_; rintro e W1 ⟨he, k1⟩; rw [hk1] at he; subst he; have R1 := hik (ElB.keep (by simpa using ElB.zero (w.alloc (.cells #[.int .i64 a, .int .i64 b] 31)) : ElB ((w.alloc (.cells #[.int .i64 a, .int .i64 b] 31)).alloc (.cells #[.int .i64 0, .int .i64 0] 31)) (w.heap.size + 1) El.zr) k1); have E1 := hik (((Elem.new w a b 31).keep ((Chg.refl nob _).alloc (.cells #[.int .i64 0, .int .i64 0] 31))).keep k1); have K1 := hik ((((Chg.refl nob w).alloc _).alloc _).trans k1); clear k1; have c0 : W1.cell? ⟨w.heap.size + 1, 0, none⟩ = some (.int .i64 0) := R1.out.c0; have c1 : W1.cell? ⟨w.heap.size + 1, 1, none⟩ = some (.int .i64 0) := R1.out.c1; have f0 := R1.out.fz 0; have f1 := R1.out.fz 1; have a0 := E1.out.c0; have a1 := E1.out.c1) | (go_at_call 46; refine (extOK_any a b _).mono ?_; rintro e W2 ⟨he, k2⟩; rw [hk2] at he; subst he; have R2 := hik (R1.out.keep k2); have E2 := hik (E1.out.keep k2); have K2 := hik (K1.out.trans k2); clear k2 c0 c1 f0 f1 a0 a1; have c0 : W2.cell? ⟨w.heap.size + 1, 0, none⟩ = some (.int .i64 0) := R2.out.c0; have c1 : W2.cell? ⟨w.heap.size + 1, 1, none⟩ = some (.int .i64 0) := R2.out.c1; have f0 := R2.out.fz 0; have f1 := R2.out.fz 1; have a0 := E2.out.c0; have a1 := E2.out.c1))
    have u0 : ((W2.setCell ⟨w.heap.size + 1, 0, none⟩ (.int .i64 0)).setCell ⟨w.heap.size + 1, 1, none⟩ (.int .i64 0)).cell? ⟨w.heap.size + 1, 0, none⟩ = some (.int .i64 0) := (R2.out.set El.zr).c0
    have u1 : ((W2.setCell ⟨w.heap.size + 1, 0, none⟩ (.int .i64 0)).setCell ⟨w.heap.size + 1, 1, none⟩ (.int .i64 0)).cell? ⟨w.heap.size + 1, 1, none⟩ = some (.int .i64 0) := (R2.out.set El.zr).c1
    exact bodyPost_ret (v := .tuple #[.agg #[.int .i64 0, .int .i64 0], .int .i64 8]) (by simp [results, Try.results27, go_sem, u0, u1]) rfl ⟨rfl, chg2_at K2.out (w.heap.size + 1) (fun l => absurd l (by omega)) 0 1 (.int .i64 0) (.int .i64 0)⟩
  by_cases hs8 : 8 < n
  · have HC := hik (show lnc f g n a b = 8 by unfold lnc; rw [if_neg hl, hk1, hk2]; simp; omega)
    have hs1' : ¬ (n : Int) < 1 := by omega
    have hs8' : 8 < (n : Int) := by omega
    have HV := hik (show lnv f g n a b = El.zr by unfold lnv; rw [HC.out]; rfl)
    rw [HC.out, HV.out]
    go_enter Try.func27, Try.ntmps27
    go_wp2_with (first | (go_at_call 56; refine (extsOK_any c n cap f g _ (hik (h.out.keep (((Chg.refl nob w).alloc _).alloc _))) hn).mono ?_; rintro e W1 ⟨he, k1⟩; rw [hk1] at he; subst he; have R1 := hik (ElB.keep (by simpa using ElB.zero (w.alloc (.cells #[.int .i64 a, .int .i64 b] 31)) : ElB ((w.alloc (.cells #[.int .i64 a, .int .i64 b] 31)).alloc (.cells #[.int .i64 0, .int .i64 0] 31)) (w.heap.size + 1) El.zr) k1); have E1 := hik (((Elem.new w a b 31).keep ((Chg.refl nob _).alloc (.cells #[.int .i64 0, .int .i64 0] 31))).keep k1); have K1 := hik ((((Chg.refl nob w).alloc _).alloc _).trans k1); clear k1; have c0 : W1.cell? ⟨w.heap.size + 1, 0, none⟩ = some (.int .i64 0) := R1.out.c0; have c1 : W1.cell? ⟨w.heap.size + 1, 1, none⟩ = some (.int .i64 0) := R1.out.c1; have f0 := R1.out.fz 0; have f1 := R1.out.fz 1; have a0 := E1.out.c0; have a1 := E1.out.c1) | (go_at_call 46; refine (extOK_any a b _).mono ?_; rintro e W2 ⟨he, k2⟩; rw [hk2] at he; subst he; have R2 := hik (R1.out.keep k2); have E2 := hik (E1.out.keep k2); have K2 := hik (K1.out.trans k2); clear k2 c0 c1 f0 f1 a0 a1; have c0 : W2.cell? ⟨w.heap.size + 1, 0, none⟩ = some (.int .i64 0) := R2.out.c0; have c1 : W2.cell? ⟨w.heap.size + 1, 1, none⟩ = some (.int .i64 0) := R2.out.c1; have f0 := R2.out.fz 0; have f1 := R2.out.fz 1; have a0 := E2.out.c0; have a1 := E2.out.c1))
    have u0 : ((W2.setCell ⟨w.heap.size + 1, 0, none⟩ (.int .i64 0)).setCell ⟨w.heap.size + 1, 1, none⟩ (.int .i64 0)).cell? ⟨w.heap.size + 1, 0, none⟩ = some (.int .i64 0) := (R2.out.set El.zr).c0
    have u1 : ((W2.setCell ⟨w.heap.size + 1, 0, none⟩ (.int .i64 0)).setCell ⟨w.heap.size + 1, 1, none⟩ (.int .i64 0)).cell? ⟨w.heap.size + 1, 1, none⟩ = some (.int .i64 0) := (R2.out.set El.zr).c1
    exact bodyPost_ret (v := .tuple #[.agg #[.int .i64 0, .int .i64 0], .int .i64 8]) (by simp [results, Try.results27, go_sem, u0, u1]) rfl ⟨rfl, chg2_at K2.out (w.heap.size + 1) (fun l => absurd l (by omega)) 0 1 (.int .i64 0) (.int .i64 0)⟩
  have HC := hik (show lnc f g n a b = 0 by unfold lnc; rw [if_neg hl, hk1, hk2]; simp; omega)
  have h1 : 1 ≤ n := by omega
  have h8 : n ≤ 8 := by omega
  have h1' : ¬ (n : Int) < 1 := by omega
  have h8' : ¬ 8 < (n : Int) := by omega
  obtain ⟨r, hra, hrb, hre⟩ : ∃ r : El, a = r.v.1 ∧ b = r.v.2 ∧ elP a b = r := ⟨elP a b, by rw [elP_v hk2], by rw [elP_v hk2], rfl⟩
  have HV := hik (show lnv f g n a b = El.lag (elF f g) r n by unfold lnv; rw [HC.out, if_pos rfl, hre])
  rw [HC.out, HV.out]
  have HP := hik (PairE.of h.out hk1)
  clear HC HV
  subst hra hrb
  clear hre
  go_enter Try.func27, Try.ntmps27
  go_wp2_with (first
    | (go_at_call 56; refine (extsOK_any c n cap f g _ (hik (h.out.keep (((Chg.refl nob w).alloc _).alloc _))) hn).mono ?_; rintro e W1 ⟨he, k1⟩; rw [hk1] at he; subst he; have R1 := hik (ElB.keep (by simpa using ElB.zero (w.alloc (.cells #[.int .i64 r.v.1, .int .i64 r.v.2] 31)) : ElB ((w.alloc (.cells #[.int .i64 r.v.1, .int .i64 r.v.2] 31)).alloc (.cells #[.int .i64 0, .int .i64 0] 31)) (w.heap.size + 1) El.zr) k1); have E1 := hik (((Elem.new w r.v.1 r.v.2 31).keep ((Chg.refl nob _).alloc (.cells #[.int .i64 0, .int .i64 0] 31))).keep k1); have K1 := hik ((((Chg.refl nob w).alloc _).alloc _).trans k1); clear k1; have c0 : W1.cell? ⟨w.heap.size + 1, 0, none⟩ = some (.int .i64 0) := R1.out.c0; have c1 : W1.cell? ⟨w.heap.size + 1, 1, none⟩ = some (.int .i64 0) := R1.out.c1; have f0 := R1.out.fz 0; have f1 := R1.out.fz 1; have a0 := E1.out.c0; have a1 := E1.out.c1)
    | (go_at_call 46; refine (extOK_any r.v.1 r.v.2 _).mono ?_; rintro e W2 ⟨he, k2⟩; rw [hk2] at he; subst he; have R2 := hik (R1.out.keep k2); have E2 := hik (E1.out.keep k2); have K2 := hik (K1.out.trans k2); clear k2 c0 c1 f0 f1 a0 a1; have c0 : W2.cell? ⟨w.heap.size + 1, 0, none⟩ = some (.int .i64 0) := R2.out.c0; have c1 : W2.cell? ⟨w.heap.size + 1, 1, none⟩ = some (.int .i64 0) := R2.out.c1; have f0 := R2.out.fz 0; have f1 := R2.out.fz 1; have a0 := E2.out.c0; have a1 := E2.out.c1)
    | (go_at_call 61; refine (lineAt_any r c n cap (elF f g) _ (hik (HP.out.keep K2.out)) h8 h1).mono ?_; rintro e W3 ⟨rfl, k3⟩; have R3 := hik (R2.out.keep k3); have K3 := hik (K2.out.trans k3); clear k3 c0 c1 f0 f1 a0 a1; have c0 : W3.cell? ⟨w.heap.size + 1, 0, none⟩ = some (.int .i64 0) := R3.out.c0; have c1 : W3.cell? ⟨w.heap.size + 1, 1, none⟩ = some (.int .i64 0) := R3.out.c1; have f0 := R3.out.fz 0; have f1 := R3.out.fz 1))
  have u0 : ((W3.setCell ⟨w.heap.size + 1, 0, none⟩ (.int .i64 (El.lag (elF f g) r n).v.1)).setCell ⟨w.heap.size + 1, 1, none⟩ (.int .i64 (El.lag (elF f g) r n).v.2)).cell? ⟨w.heap.size + 1, 0, none⟩ = some (.int .i64 (El.lag (elF f g) r n).v.1) := (R3.out.set (El.lag (elF f g) r n)).c0
  have u1 : ((W3.setCell ⟨w.heap.size + 1, 0, none⟩ (.int .i64 (El.lag (elF f g) r n).v.1)).setCell ⟨w.heap.size + 1, 1, none⟩ (.int .i64 (El.lag (elF f g) r n).v.2)).cell? ⟨w.heap.size + 1, 1, none⟩ = some (.int .i64 (El.lag (elF f g) r n).v.2) := (R3.out.set (El.lag (elF f g) r n)).c1
  exact bodyPost_ret (v := .tuple #[.agg #[.int .i64 (El.lag (elF f g) r n).v.1, .int .i64 (El.lag (elF f g) r n).v.2], .int .i64 0]) (by simp [results, Try.results27, go_sem, u0, u1]) rfl ⟨rfl, chg2_at K3.out (w.heap.size + 1) (fun l => absurd l (by omega)) 0 1 (.int .i64 (El.lag (elF f g) r n).v.1) (.int .i64 (El.lag (elF f g) r n).v.2)⟩

end Go.Proofs.Ytmcdkmohjmcjbac

namespace Go.Proofs.Ytmcdkmohjmcjbac
open Go.ChangeShapes Go.WideShapes Go.ChangeAt Go.RowKit
set_option linter.unusedVariables false
set_option maxRecDepth 100000
set_option linter.unusedSimpArgs false

theorem lgd_b (i : Nat) : ∀ k, (El.lgp El.on (El.nb i) i k).v.2 = 0 := by
  intro k
  induction k with
  | zero => rfl
  | succ k ih =>
    rw [El.lgp]
    by_cases e : k = i
    · rw [if_pos e, ih]
    · rw [if_neg e]
      show Fld.mB _ _ _ _ = 0
      unfold Fld.mB
      rw [ih]
      simp [El.sb, El.nb]
theorem lgd_a {i k : Nat} (hi : i < 100) (hk : k < 100) (h : ¬ k = i) : (El.lgp El.on (El.nb i) i k).v.1 * (((i : Int) + 2130706433 - (k : Int)) % 2130706433) % 2130706433 = (El.lgp El.on (El.nb i) i (k + 1)).v.1 := by
  rw [El.lgp, if_neg h]
  show _ = Fld.mA _ _ _ _
  unfold Fld.mA
  rw [lgd_b]
  have e : (El.sb (El.nb i) (El.nb k)).v.1 = ((i : Int) + 2130706433 - (k : Int)) % 2130706433 := by
    show ((El.nb i).v.1 + 2130706433 - (El.nb k).v.1) % 2130706433 = _
    rw [nb_v hi, nb_v hk]
  rw [e]
  simp
theorem el_inv {D : El} (hb : D.v.2 = 0) (hne : D ≠ El.zr) : (El.inv D).v.1 = Fld.pw D.v.1 2130706431 % 2130706433 ∧ (El.inv D).v.2 = 0 := by
  have hpos : 0 < D.v.1 := by
    have := D.lo1
    have h0 : D.v.1 ≠ 0 := fun e => hne (El.eq2 e hb)
    omega
  have hm := Fld.inv_mul D.v.1 hpos D.hi1
  obtain ⟨Y, hY1, hY2⟩ : ∃ Y : El, Y.v.1 = Fld.pw D.v.1 2130706431 % 2130706433 ∧ Y.v.2 = 0 := ⟨⟨(Fld.pw D.v.1 2130706431 % 2130706433, 0), by unfold Fld.Red; dsimp only; omega⟩, rfl, rfl⟩
  have e : El.ml Y D = El.on := by
    refine El.eq2 ?_ ?_
    · show Fld.mA _ _ _ _ = 1
      unfold Fld.mA
      rw [hY1, hY2, hb]
      simpa using hm
    · show Fld.mB _ _ _ _ = 0
      unfold Fld.mB
      rw [hY2, hb]
      simp
  rw [← El.inv_of e]
  exact ⟨hY1, hY2⟩

theorem sOf_nb (k : Nat) (hk : k < 100) (w : World) : Calls Try.prog 98 #[.int .i64 (k : Int)] w fun e w' => e = .returned (.agg #[.int .i64 (El.nb k).v.1, .int .i64 (El.nb k).v.2]) ∧ Chg nob w w' :=
  (l02Of_any (k : Int) w).mono (fun e w' h => ⟨by rw [h.1, nb_v hk, nb_w], by rw [h.2]; exact (Chg.refl nob w).alloc _⟩)

theorem sOf_inv (D : El) (hb : D.v.2 = 0) (hne : D ≠ El.zr) (w : World) : Calls Try.prog 98 #[.int .i64 (Fld.pw D.v.1 2130706431 % 2130706433)] w fun e w' => e = .returned (.agg #[.int .i64 (El.inv D).v.1, .int .i64 (El.inv D).v.2]) ∧ Chg nob w w' :=
  (l02Of_any _ w).mono (fun e w' h => ⟨by rw [h.1, (el_inv hb hne).1, (el_inv hb hne).2], by rw [h.2]; exact (Chg.refl nob w).alloc _⟩)

theorem sInv_c (D : El) (w : World) : Calls Try.prog 101 #[.int .i64 D.v.1] w fun e w' => e = .returned (.int .i64 (Fld.pw D.v.1 2130706431 % 2130706433)) ∧ Chg nob w w' :=
  (l01Inverse_any D.v.1 w D.lo1 D.hi1).mono (fun e w' h => ⟨h.1, by rw [h.2]; exact Chg.refl nob w⟩)

set_option maxHeartbeats 4000000 in
theorem sLine_any (c : Option Addr) (n cap : Nat) (v : Nat → El) (x : El) (w : World) (h : Hid (PairE w c n v)) (hn : n ≤ 8) : Calls Try.prog 66 #[.slice c n cap, .agg #[.int .i64 x.v.1, .int .i64 x.v.2]] w fun e w' => e = .returned (.agg #[.int .i64 (El.lag v x n).v.1, .int .i64 (El.lag v x n).v.2]) ∧ Chg nob w w' := by
  go_enter Try.func66, Try.ntmps66
  go_wp2
  go_loopw [6] (fun i W => ∃ u : Nat, u ≤ n ∧ i = .int .i64 u ∧ Hid (ElB W (w.heap.size + 1 + 1) (El.sm (fun i => El.ml (El.lgp (v i) x i n) (El.inv (El.lgp El.on (El.nb i) i n))) u)) ∧ Hid (ElB W w.heap.size x) ∧ Hid (ElB W (w.heap.size + 1) El.zr) ∧ Hid (Chg nob w W)) (fun i _ => n - (intOf i).toNat)
  case atStart =>
    refine ⟨0, Nat.zero_le _, rfl, hik ?_, hik ?_, hik ?_, hik ((((Chg.refl nob w).alloc _).alloc _).alloc _)⟩
    · exact (by simpa using ElB.zero ((w.alloc (.cells #[.int .i64 x.v.1, .int .i64 x.v.2] 31)).alloc (.cells #[.int .i64 0, .int .i64 0] 31)) : ElB (((w.alloc (.cells #[.int .i64 x.v.1, .int .i64 x.v.2] 31)).alloc (.cells #[.int .i64 0, .int .i64 0] 31)).alloc (.cells #[.int .i64 0, .int .i64 0] 31)) (w.heap.size + 1 + 1) El.zr)
    · exact ((ElB.new w x).keep ((Chg.refl nob _).alloc _)).keep ((Chg.refl nob _).alloc _)
    · exact ElB.keep (by simpa using ElB.zero (w.alloc (.cells #[.int .i64 x.v.1, .int .i64 x.v.2] 31)) : ElB ((w.alloc (.cells #[.int .i64 x.v.1, .int .i64 x.v.2] 31)).alloc (.cells #[.int .i64 0, .int .i64 0] 31)) (w.heap.size + 1) El.zr) ((Chg.refl nob _).alloc _)
  case round =>
    obtain ⟨u, hu, rfl, HO, HX, HR, HG⟩ := hrel
    rename World => wo
    by_cases hlt : u < n
    · have hu1 : (u : Int) < (n : Int) := by omega
      have hu0 : (0 : Int) ≤ (u : Int) := by omega
      have VY := hik (PairE.keep h.out HG.out)
      obtain ⟨zb, zo, ec, hzb, _, _⟩ := PairE.at_ VY.out hlt
      subst ec
      have z0 := PairE.c0 VY.out hlt
      have z1 := PairE.c1 VY.out hlt
      have hol : w.heap.size + 1 + 1 < wo.heap.size := HO.out.lt
      go_wp2
      clear z0 z1 VY
      go_loopw [8, 9] (fun d k W => ∃ q : Nat, q ≤ n ∧ k = .int .i64 q ∧ d = .int .i64 (El.lgp El.on (El.nb u) u q).v.1 ∧ Hid (ElB W wo.heap.size (El.lgp (v u) x u q)) ∧ Hid (Chg nob wo W)) (fun _ k _ => n - (intOf k).toNat)
      case atStart => exact ⟨0, Nat.zero_le _, rfl, rfl, hik (ElB.new wo (v u)), hik ((Chg.refl nob wo).alloc _)⟩
      case round =>
        obtain ⟨q, hq, rfl, rfl, HY, HH⟩ := hrel
        rename World => wi
        by_cases hlq : q < n
        · have hq1 : (q : Int) < (n : Int) := by omega
          by_cases hqu : q = u
          · have HY2 := hik (show ElB wi wo.heap.size (El.lgp (v u) x u (q + 1)) by rw [El.lgp, if_pos hqu]; exact HY.out)
            have HD2 := hik (show El.lgp El.on (El.nb u) u q = El.lgp El.on (El.nb u) u (q + 1) by rw [El.lgp, if_pos hqu])
            have hne : ((q : Int) != (u : Int)) = false := by rw [hqu]; simp
            have HQU := hik hqu
            clear hqu
            go_wp2
            go_roundw
            case rel => exact ⟨q + 1, by omega, by go_num, by rw [HD2.out], HY2, HH⟩
            case measure => simp [intOf]; omega
          · have hne : ((q : Int) != (u : Int)) = true := bne_iff_ne.2 (by omega)
            have HD2 := hik (lgd_a (i := u) (k := q) (by omega) (by omega) hqu)
            have HQU := hik hqu
            have HX3 := hik (HX.out.keep HH.out)
            have x0 := HX3.out.c0
            have x1 := HX3.out.c1
            have y0 := HY.out.c0
            have y1 := HY.out.c1
            have hyl : wo.heap.size < wi.heap.size := HY.out.lt
            clear hqu HX3
            obtain ⟨DD, hDD⟩ : ∃ DD, DD = El.lgp El.on (El.nb u) u q := ⟨_, rfl⟩
            rw [← hDD] at HD2 ⊢
            have HDD := hik hDD
            clear hDD
            go_wp2
            have KW := hik ((Chg.refl nob wi).drew1)
            have SA := hik (fun (WW : World) (kW : Chg nob wi WW) => (show (WW.cell? ⟨wo.heap.size, 0, none⟩ = some (.int .i64 (El.lgp (v u) x u q).v.1) ∧ WW.cell? ⟨wo.heap.size, 1, none⟩ = some (.int .i64 (El.lgp (v u) x u q).v.2) ∧ WW.cell? ⟨w.heap.size, 0, none⟩ = some (.int .i64 x.v.1) ∧ WW.cell? ⟨w.heap.size, 1, none⟩ = some (.int .i64 x.v.2)) from ⟨kW.see y0, kW.see y1, kW.see x0, kW.see x1⟩))
            refine wp_regionL (L := 6) (S := fun w' => w'.cell? ⟨wo.heap.size, 0, none⟩ = some (.int .i64 (El.lgp (v u) x u q).v.1) ∧ w'.cell? ⟨wo.heap.size, 1, none⟩ = some (.int .i64 (El.lgp (v u) x u q).v.2) ∧ w'.cell? ⟨w.heap.size, 0, none⟩ = some (.int .i64 x.v.1) ∧ w'.cell? ⟨w.heap.size, 1, none⟩ = some (.int .i64 x.v.2)) (by kernel_rfl) ⟨y0, y1, x0, x1⟩ (fun hHeld => ?_)
            refine wpAnyL_take (i := 0) (v := ?_) rfl (by kernel_rfl) (by kernel_rfl) (by kernel_rfl) (fun _ _ _ h => h) (by rfl) (by kernel_rfl) (by kernel_rfl) (Or.inl ⟨by rfl, ?_⟩) (by assumption) ?_
            rotate_left 1
            · (intro w' hSw; (try dsimp only at hSw); go_simp; try with_reducible rfl)
            try simp only [Act.put, List.setIfInBounds_toArray, List.set_cons_zero, List.set_cons_succ, List.getElem_toArray, List.getElem_cons_zero, List.getElem_cons_succ]
            refine wpAnyL_take (i := 1) (v := ?_) rfl (by kernel_rfl) (by kernel_rfl) (by kernel_rfl) (fun _ _ _ h => h) (by rfl) (by kernel_rfl) (by kernel_rfl) (Or.inl ⟨by rfl, ?_⟩) (by assumption) ?_
            rotate_left 1
            · (intro w' hSw; (try dsimp only at hSw); go_simp; try with_reducible rfl)
            try simp only [Act.put, List.setIfInBounds_toArray, List.set_cons_zero, List.set_cons_succ, List.getElem_toArray, List.getElem_cons_zero, List.getElem_cons_succ]
            refine wpAnyL_take (i := 2) (v := ?_) rfl (by kernel_rfl) (by kernel_rfl) (by kernel_rfl) (fun _ _ _ h => h) (by rfl) (by kernel_rfl) (by kernel_rfl) (Or.inl ⟨by rfl, ?_⟩) (by assumption) ?_
            rotate_left 1
            · (intro w' hSw; (try dsimp only at hSw); go_simp; try with_reducible rfl)
            try simp only [Act.put, List.setIfInBounds_toArray, List.set_cons_zero, List.set_cons_succ, List.getElem_toArray, List.getElem_cons_zero, List.getElem_cons_succ]
            refine wpAnyL_ready (rs := [3]) (by kernel_rfl) (by simp) ?_
            refine AllReadyL.cons rfl (fun K hK => ?_) AllReadyL.nil
            refine stepL_callN 98 #[.tmp 32] #[3] (by rfl) (by rfl) #[.int .i64 (q : Int)] (by simp only [List.map_toArray, List.map_cons, List.map_nil] <;> rfl) (run_go Try.func98 (by kernel_rfl) (by kernel_rfl) _ _) (sOf_nb q (by omega) _) ?_
            rintro e U1 ⟨he, kk⟩
            refine ⟨_, he, ?_⟩
            replace KW := hik (KW.out.trans kk)
            refine hK.out _ _ (SA.out _ KW.out) (fun hHeld => ?_)
            clear hK K
            try simp only [Act.put, List.setIfInBounds_toArray, List.set_cons_zero, List.set_cons_succ, List.getElem_toArray, List.getElem_cons_zero, List.getElem_cons_succ]
            clear he kk
            refine wpAnyL_ready (rs := [4]) (by kernel_rfl) (by simp) ?_
            refine AllReadyL.cons rfl (fun K hK => ?_) AllReadyL.nil
            refine stepL_callN 92 #[.tmp 31, .tmp 33] #[31, 31] (by rfl) (by rfl) #[.agg #[.int .i64 x.v.1, .int .i64 x.v.2], .agg #[.int .i64 (El.nb q).v.1, .int .i64 (El.nb q).v.2]] (by simp only [List.map_toArray, List.map_cons, List.map_nil] <;> rfl) (run_go Try.func92 (by kernel_rfl) (by kernel_rfl) _ _) (sSb_el x (El.nb q) _) ?_
            rintro e U2 ⟨he, kk⟩
            refine ⟨_, he, ?_⟩
            replace KW := hik (KW.out.trans kk)
            refine hK.out _ _ (SA.out _ KW.out) (fun hHeld => ?_)
            clear hK K
            try simp only [Act.put, List.setIfInBounds_toArray, List.set_cons_zero, List.set_cons_succ, List.getElem_toArray, List.getElem_cons_zero, List.getElem_cons_succ]
            clear he kk
            refine wpAnyL_ready (rs := [5]) (by kernel_rfl) (by simp) ?_
            refine AllReadyL.cons rfl (fun K hK => ?_) AllReadyL.nil
            refine stepL_callN 87 #[.tmp 30, .tmp 34] #[31, 31] (by rfl) (by rfl) #[.agg #[.int .i64 (El.lgp (v u) x u q).v.1, .int .i64 (El.lgp (v u) x u q).v.2], .agg #[.int .i64 (El.sb x (El.nb q)).v.1, .int .i64 (El.sb x (El.nb q)).v.2]] (by simp only [List.map_toArray, List.map_cons, List.map_nil] <;> rfl) (run_go Try.func87 (by kernel_rfl) (by kernel_rfl) _ _) (sMl_el (El.lgp (v u) x u q) (El.sb x (El.nb q)) _) ?_
            rintro e U3 ⟨he, kk⟩
            refine ⟨_, he, ?_⟩
            replace KW := hik (KW.out.trans kk)
            refine hK.out _ _ (SA.out _ KW.out) (fun hHeld => ?_)
            clear hK K
            try simp only [Act.put, List.setIfInBounds_toArray, List.set_cons_zero, List.set_cons_succ, List.getElem_toArray, List.getElem_cons_zero, List.getElem_cons_succ]
            clear he kk
            refine wpAnyL_ready (rs := [6]) (by kernel_rfl) (by simp) ?_
            refine AllReadyL.last rfl (by kernel_rfl) (fun K hK => ?_)
            have EN := hik (HY.out.keep KW.out)
            have g0 := EN.out.c0
            have g1 := EN.out.c1
            have f0 := EN.out.fz 0
            have f1 := EN.out.fz 1
            have ln : wo.heap.size < U3.heap.size := EN.out.lt
            simp only [List.getElem_toArray, List.getElem_cons_zero, List.getElem_cons_succ]
            go_simp
            refine hK.out _ _ ?_
            clear hK K
            try simp only [Act.put, List.setIfInBounds_toArray, List.set_cons_zero, List.set_cons_succ, List.getElem_toArray, List.getElem_cons_zero, List.getElem_cons_succ]
            clear g0 g1 f0 f1 ln
            refine wpAnyL_done (by kernel_rfl) ?_ _
            have E2 := hik (show ElB ((U3.setCell ⟨wo.heap.size, 0, none⟩ (.int .i64 (El.ml (El.lgp (v u) x u q) (El.sb x (El.nb q))).v.1)).setCell ⟨wo.heap.size, 1, none⟩ (.int .i64 (El.ml (El.lgp (v u) x u q) (El.sb x (El.nb q))).v.2)) wo.heap.size (El.lgp (v u) x u (q + 1)) by rw [El.lgp, if_neg HQU.out]; exact EN.out.set (El.ml (El.lgp (v u) x u q) (El.sb x (El.nb q))))
            have G2 := hik (chg2_at (HH.out.trans KW.out) wo.heap.size (fun l => absurd l (by omega)) 0 1 (.int .i64 (El.ml (El.lgp (v u) x u q) (El.sb x (El.nb q))).v.1) (.int .i64 (El.ml (El.lgp (v u) x u q) (El.sb x (El.nb q))).v.2))
            generalize hE : ((U3.setCell ⟨wo.heap.size, 0, none⟩ (.int .i64 (El.ml (El.lgp (v u) x u q) (El.sb x (El.nb q))).v.1)).setCell ⟨wo.heap.size, 1, none⟩ (.int .i64 (El.ml (El.lgp (v u) x u q) (El.sb x (El.nb q))).v.2)) = W5 at E2 G2 ⊢
            clear hE EN KW SA hHeld x0 x1 y0 y1 HY HH
            go_wp2_with fail
            refine (l01Sub_any (u : Int) (q : Int) _ (by omega) (by omega) (by omega) (by omega)).mono ?_
            rintro e W6 ⟨rfl, rfl⟩
            go_wp2_with fail
            refine (l01Mul_any DD.v.1 (((u : Int) + 2130706433 - (q : Int)) % 2130706433) _ DD.lo1 DD.hi1 (by omega) (by omega)).mono ?_
            rintro e W7 ⟨rfl, rfl⟩
            rw [HD2.out]
            go_wp2
            go_roundw
            case rel => exact ⟨q + 1, by omega, by go_num, rfl, E2, G2⟩
            case measure => simp [intOf]; omega
        · obtain rfl : n = q := by omega
          obtain ⟨DD, hDD⟩ : ∃ DD, DD = El.lgp El.on (El.nb u) u n := ⟨_, rfl⟩
          rw [← hDD]
          have hDb : DD.v.2 = 0 := by rw [hDD]; exact lgd_b u n
          have hDn : DD ≠ El.zr := by rw [hDD]; exact El.lgp_own (by omega) (by omega)
          have HDD := hik hDD
          have HO3 := hik (HO.out.keep HH.out)
          have HX3 := hik (HX.out.keep HH.out)
          have HR3 := hik (HR.out.keep HH.out)
          have HG3 := hik (HG.out.trans HH.out)
          have o0 := HO3.out.c0
          have o1 := HO3.out.c1
          have y0 := HY.out.c0
          have y1 := HY.out.c1
          have HNB := hik hDb
          have HNN := hik hDn
          clear hDD hDb hDn HO HX HR HG
          go_wp2
          have KW := hik ((Chg.refl nob wi).drew1)
          have SA := hik (fun (WW : World) (kW : Chg nob wi WW) => (show (WW.cell? ⟨w.heap.size + 1 + 1, 0, none⟩ = some (.int .i64 (El.sm (fun i => El.ml (El.lgp (v i) x i n) (El.inv (El.lgp El.on (El.nb i) i n))) u).v.1) ∧ WW.cell? ⟨w.heap.size + 1 + 1, 1, none⟩ = some (.int .i64 (El.sm (fun i => El.ml (El.lgp (v i) x i n) (El.inv (El.lgp El.on (El.nb i) i n))) u).v.2) ∧ WW.cell? ⟨wo.heap.size, 0, none⟩ = some (.int .i64 (El.lgp (v u) x u n).v.1) ∧ WW.cell? ⟨wo.heap.size, 1, none⟩ = some (.int .i64 (El.lgp (v u) x u n).v.2)) from ⟨kW.see o0, kW.see o1, kW.see y0, kW.see y1⟩))
          refine wp_regionL (L := 7) (S := fun w' => w'.cell? ⟨w.heap.size + 1 + 1, 0, none⟩ = some (.int .i64 (El.sm (fun i => El.ml (El.lgp (v i) x i n) (El.inv (El.lgp El.on (El.nb i) i n))) u).v.1) ∧ w'.cell? ⟨w.heap.size + 1 + 1, 1, none⟩ = some (.int .i64 (El.sm (fun i => El.ml (El.lgp (v i) x i n) (El.inv (El.lgp El.on (El.nb i) i n))) u).v.2) ∧ w'.cell? ⟨wo.heap.size, 0, none⟩ = some (.int .i64 (El.lgp (v u) x u n).v.1) ∧ w'.cell? ⟨wo.heap.size, 1, none⟩ = some (.int .i64 (El.lgp (v u) x u n).v.2)) (by kernel_rfl) ⟨o0, o1, y0, y1⟩ (fun hHeld => ?_)
          refine wpAnyL_take (i := 0) (v := ?_) rfl (by kernel_rfl) (by kernel_rfl) (by kernel_rfl) (fun _ _ _ h => h) (by rfl) (by kernel_rfl) (by kernel_rfl) (Or.inl ⟨by rfl, ?_⟩) (by assumption) ?_
          rotate_left 1
          · (intro w' hSw; (try dsimp only at hSw); go_simp; try with_reducible rfl)
          try simp only [Act.put, List.setIfInBounds_toArray, List.set_cons_zero, List.set_cons_succ, List.getElem_toArray, List.getElem_cons_zero, List.getElem_cons_succ]
          refine wpAnyL_take (i := 1) (v := ?_) rfl (by kernel_rfl) (by kernel_rfl) (by kernel_rfl) (fun _ _ _ h => h) (by rfl) (by kernel_rfl) (by kernel_rfl) (Or.inl ⟨by rfl, ?_⟩) (by assumption) ?_
          rotate_left 1
          · (intro w' hSw; (try dsimp only at hSw); go_simp; try with_reducible rfl)
          try simp only [Act.put, List.setIfInBounds_toArray, List.set_cons_zero, List.set_cons_succ, List.getElem_toArray, List.getElem_cons_zero, List.getElem_cons_succ]
          refine wpAnyL_take (i := 2) (v := ?_) rfl (by kernel_rfl) (by kernel_rfl) (by kernel_rfl) (fun _ _ _ h => h) (by rfl) (by kernel_rfl) (by kernel_rfl) (Or.inl ⟨by rfl, ?_⟩) (by assumption) ?_
          rotate_left 1
          · (intro w' hSw; (try dsimp only at hSw); go_simp; try with_reducible rfl)
          try simp only [Act.put, List.setIfInBounds_toArray, List.set_cons_zero, List.set_cons_succ, List.getElem_toArray, List.getElem_cons_zero, List.getElem_cons_succ]
          refine wpAnyL_ready (rs := [3]) (by kernel_rfl) (by simp) ?_
          refine AllReadyL.cons rfl (fun K hK => ?_) AllReadyL.nil
          refine stepL_callN 101 #[.tmp 43] #[3] (by rfl) (by rfl) #[.int .i64 DD.v.1] (by simp only [List.map_toArray, List.map_cons, List.map_nil] <;> rfl) (run_go Try.func101 (by kernel_rfl) (by kernel_rfl) _ _) (sInv_c DD _) ?_
          rintro e U1 ⟨he, kk⟩
          refine ⟨_, he, ?_⟩
          replace KW := hik (KW.out.trans kk)
          refine hK.out _ _ (SA.out _ KW.out) (fun hHeld => ?_)
          clear hK K
          try simp only [Act.put, List.setIfInBounds_toArray, List.set_cons_zero, List.set_cons_succ, List.getElem_toArray, List.getElem_cons_zero, List.getElem_cons_succ]
          clear he kk
          refine wpAnyL_ready (rs := [4]) (by kernel_rfl) (by simp) ?_
          refine AllReadyL.cons rfl (fun K hK => ?_) AllReadyL.nil
          refine stepL_callN 98 #[.tmp 44] #[3] (by rfl) (by rfl) #[.int .i64 (Fld.pw DD.v.1 2130706431 % 2130706433)] (by simp only [List.map_toArray, List.map_cons, List.map_nil] <;> rfl) (run_go Try.func98 (by kernel_rfl) (by kernel_rfl) _ _) (sOf_inv DD HNB.out HNN.out _) ?_
          rintro e U2 ⟨he, kk⟩
          refine ⟨_, he, ?_⟩
          replace KW := hik (KW.out.trans kk)
          refine hK.out _ _ (SA.out _ KW.out) (fun hHeld => ?_)
          clear hK K
          try simp only [Act.put, List.setIfInBounds_toArray, List.set_cons_zero, List.set_cons_succ, List.getElem_toArray, List.getElem_cons_zero, List.getElem_cons_succ]
          clear he kk
          refine wpAnyL_ready (rs := [5]) (by kernel_rfl) (by simp) ?_
          refine AllReadyL.cons rfl (fun K hK => ?_) AllReadyL.nil
          refine stepL_callN 87 #[.tmp 42, .tmp 45] #[31, 31] (by rfl) (by rfl) #[.agg #[.int .i64 (El.lgp (v u) x u n).v.1, .int .i64 (El.lgp (v u) x u n).v.2], .agg #[.int .i64 (El.inv DD).v.1, .int .i64 (El.inv DD).v.2]] (by simp only [List.map_toArray, List.map_cons, List.map_nil] <;> rfl) (run_go Try.func87 (by kernel_rfl) (by kernel_rfl) _ _) (sMl_el (El.lgp (v u) x u n) (El.inv DD) _) ?_
          rintro e U3 ⟨he, kk⟩
          refine ⟨_, he, ?_⟩
          replace KW := hik (KW.out.trans kk)
          refine hK.out _ _ (SA.out _ KW.out) (fun hHeld => ?_)
          clear hK K
          try simp only [Act.put, List.setIfInBounds_toArray, List.set_cons_zero, List.set_cons_succ, List.getElem_toArray, List.getElem_cons_zero, List.getElem_cons_succ]
          clear he kk
          refine wpAnyL_ready (rs := [6]) (by kernel_rfl) (by simp) ?_
          refine AllReadyL.cons rfl (fun K hK => ?_) AllReadyL.nil
          refine stepL_callN 90 #[.tmp 41, .tmp 46] #[31, 31] (by rfl) (by rfl) #[.agg #[.int .i64 (El.sm (fun i => El.ml (El.lgp (v i) x i n) (El.inv (El.lgp El.on (El.nb i) i n))) u).v.1, .int .i64 (El.sm (fun i => El.ml (El.lgp (v i) x i n) (El.inv (El.lgp El.on (El.nb i) i n))) u).v.2], .agg #[.int .i64 (El.ml (El.lgp (v u) x u n) (El.inv DD)).v.1, .int .i64 (El.ml (El.lgp (v u) x u n) (El.inv DD)).v.2]] (by simp only [List.map_toArray, List.map_cons, List.map_nil] <;> rfl) (run_go Try.func90 (by kernel_rfl) (by kernel_rfl) _ _) (sAd_el (El.sm (fun i => El.ml (El.lgp (v i) x i n) (El.inv (El.lgp El.on (El.nb i) i n))) u) (El.ml (El.lgp (v u) x u n) (El.inv DD)) _) ?_
          rintro e U4 ⟨he, kk⟩
          refine ⟨_, he, ?_⟩
          replace KW := hik (KW.out.trans kk)
          refine hK.out _ _ (SA.out _ KW.out) (fun hHeld => ?_)
          clear hK K
          try simp only [Act.put, List.setIfInBounds_toArray, List.set_cons_zero, List.set_cons_succ, List.getElem_toArray, List.getElem_cons_zero, List.getElem_cons_succ]
          clear he kk
          refine wpAnyL_ready (rs := [7]) (by kernel_rfl) (by simp) ?_
          refine AllReadyL.last rfl (by kernel_rfl) (fun K hK => ?_)
          have EN := hik (HO3.out.keep KW.out)
          have g0 := EN.out.c0
          have g1 := EN.out.c1
          have f0 := EN.out.fz 0
          have f1 := EN.out.fz 1
          have ln : w.heap.size + 1 + 1 < U4.heap.size := EN.out.lt
          simp only [List.getElem_toArray, List.getElem_cons_zero, List.getElem_cons_succ]
          go_simp
          refine hK.out _ _ ?_
          clear hK K
          try simp only [Act.put, List.setIfInBounds_toArray, List.set_cons_zero, List.set_cons_succ, List.getElem_toArray, List.getElem_cons_zero, List.getElem_cons_succ]
          clear g0 g1 f0 f1 ln
          refine wpAnyL_done (by kernel_rfl) ?_ _
          have E2 := hik (show ElB ((U4.setCell ⟨w.heap.size + 1 + 1, 0, none⟩ (.int .i64 (El.ad (El.sm (fun i => El.ml (El.lgp (v i) x i n) (El.inv (El.lgp El.on (El.nb i) i n))) u) (El.ml (El.lgp (v u) x u n) (El.inv DD))).v.1)).setCell ⟨w.heap.size + 1 + 1, 1, none⟩ (.int .i64 (El.ad (El.sm (fun i => El.ml (El.lgp (v i) x i n) (El.inv (El.lgp El.on (El.nb i) i n))) u) (El.ml (El.lgp (v u) x u n) (El.inv DD))).v.2)) (w.heap.size + 1 + 1) (El.sm (fun i => El.ml (El.lgp (v i) x i n) (El.inv (El.lgp El.on (El.nb i) i n))) (u + 1)) by
            have qq := EN.out.set (El.ad (El.sm (fun i => El.ml (El.lgp (v i) x i n) (El.inv (El.lgp El.on (El.nb i) i n))) u) (El.ml (El.lgp (v u) x u n) (El.inv DD)))
            rw [HDD.out] at qq
            rw [HDD.out]
            exact qq)
          have X5 := hik (ElB.other (HX3.out.keep KW.out) (g := w.heap.size + 1 + 1) (by omega) 0 1 (.int .i64 (El.ad (El.sm (fun i => El.ml (El.lgp (v i) x i n) (El.inv (El.lgp El.on (El.nb i) i n))) u) (El.ml (El.lgp (v u) x u n) (El.inv DD))).v.1) (.int .i64 (El.ad (El.sm (fun i => El.ml (El.lgp (v i) x i n) (El.inv (El.lgp El.on (El.nb i) i n))) u) (El.ml (El.lgp (v u) x u n) (El.inv DD))).v.2))
          have R5 := hik (ElB.other (HR3.out.keep KW.out) (g := w.heap.size + 1 + 1) (by omega) 0 1 (.int .i64 (El.ad (El.sm (fun i => El.ml (El.lgp (v i) x i n) (El.inv (El.lgp El.on (El.nb i) i n))) u) (El.ml (El.lgp (v u) x u n) (El.inv DD))).v.1) (.int .i64 (El.ad (El.sm (fun i => El.ml (El.lgp (v i) x i n) (El.inv (El.lgp El.on (El.nb i) i n))) u) (El.ml (El.lgp (v u) x u n) (El.inv DD))).v.2))
          have G2 := hik (chg2_at (HG3.out.trans KW.out) (w.heap.size + 1 + 1) (fun l => absurd l (by omega)) 0 1 (.int .i64 (El.ad (El.sm (fun i => El.ml (El.lgp (v i) x i n) (El.inv (El.lgp El.on (El.nb i) i n))) u) (El.ml (El.lgp (v u) x u n) (El.inv DD))).v.1) (.int .i64 (El.ad (El.sm (fun i => El.ml (El.lgp (v i) x i n) (El.inv (El.lgp El.on (El.nb i) i n))) u) (El.ml (El.lgp (v u) x u n) (El.inv DD))).v.2))
          generalize hE : ((U4.setCell ⟨w.heap.size + 1 + 1, 0, none⟩ (.int .i64 (El.ad (El.sm (fun i => El.ml (El.lgp (v i) x i n) (El.inv (El.lgp El.on (El.nb i) i n))) u) (El.ml (El.lgp (v u) x u n) (El.inv DD))).v.1)).setCell ⟨w.heap.size + 1 + 1, 1, none⟩ (.int .i64 (El.ad (El.sm (fun i => El.ml (El.lgp (v i) x i n) (El.inv (El.lgp El.on (El.nb i) i n))) u) (El.ml (El.lgp (v u) x u n) (El.inv DD))).v.2)) = W5 at E2 X5 R5 G2 ⊢
          clear hE EN KW SA hHeld o0 o1 y0 y1 HY HH HO3 HX3 HR3 HG3
          go_wp2
          go_roundw
          case rel => exact ⟨u + 1, by omega, by go_num, E2, X5, R5, G2⟩
          case measure => simp [intOf]; omega
    · obtain rfl : n = u := by omega
      have HO2 := hik (show ElB wo (w.heap.size + 1 + 1) (El.lag v x n) from HO.out)
      clear HO
      have e0 := HO2.out.c0
      have e1 := HO2.out.c1
      have c0 : wo.cell? ⟨w.heap.size + 1, 0, none⟩ = some (.int .i64 0) := HR.out.c0
      have c1 : wo.cell? ⟨w.heap.size + 1, 1, none⟩ = some (.int .i64 0) := HR.out.c1
      have f0 := HR.out.fz 0
      have f1 := HR.out.fz 1
      go_wp2
      have u0 := (HR.out.set (El.lag v x n)).c0
      have u1 := (HR.out.set (El.lag v x n)).c1
      exact bodyPost_ret (v := .agg #[.int .i64 (El.lag v x n).v.1, .int .i64 (El.lag v x n).v.2]) (by simp [results, Try.results66, go_sem, u0, u1]) rfl ⟨rfl, chg2_at HG.out (w.heap.size + 1) (fun l => absurd l (by omega)) 0 1 _ _⟩

set_option maxHeartbeats 2000000 in
theorem sLineX_any (c : Option Addr) (n cap : Nat) (f g : Nat → Int) (a b : Int) (w : World) (h : Hid (PairV w c n f g)) (hn : n ≤ 1099511627776) :
    Calls Try.prog 29 #[.slice c n cap, .agg #[.int .i64 a, .int .i64 b]] w fun e w' => e = .returned (.tuple #[.agg #[.int .i64 (lnv f g n a b).v.1, .int .i64 (lnv f g n a b).v.2], .int .i64 (lnc f g n a b)]) ∧ Chg nob w w' := by
  by_cases hl : 4096 < n
  · have hl' : 4096 < (n : Int) := by omega
    have HC := hik (show lnc f g n a b = 2 by unfold lnc; rw [if_pos hl])
    have HV := hik (show lnv f g n a b = El.zr by unfold lnv; rw [HC.out]; rfl)
    rw [HC.out, HV.out]
    go_enter Try.func29, Try.ntmps29
    go_wp2
    exact bodyPost_ret (v := .tuple #[.agg #[.int .i64 0, .int .i64 0], .int .i64 2]) (by simp [results, Try.results29, go_sem]) rfl ⟨rfl, ((Chg.refl nob w).alloc _).alloc _⟩
  have hl' : ¬ 4096 < (n : Int) := by omega
  cases hk1 : okP f g n
  · have HC := hik (show lnc f g n a b = 1 by unfold lnc; rw [if_neg hl, hk1]; rfl)
    have HV := hik (show lnv f g n a b = El.zr by unfold lnv; rw [HC.out]; rfl)
    rw [HC.out, HV.out]
    go_enter Try.func29, Try.ntmps29
    go_wp2_with (go_at_call 62; refine (l02List_any c n cap f g _ (hik (h.out.keep (((Chg.refl nob w).alloc _).alloc _))) hn).mono ?_; rintro e W1 ⟨he, k1⟩; rw [hk1] at he; subst he; have R1 := hik (ElB.keep (by simpa using ElB.zero (w.alloc (.cells #[.int .i64 a, .int .i64 b] 31)) : ElB ((w.alloc (.cells #[.int .i64 a, .int .i64 b] 31)).alloc (.cells #[.int .i64 0, .int .i64 0] 31)) (w.heap.size + 1) El.zr) k1); have E1 := hik (((Elem.new w a b 31).keep ((Chg.refl nob _).alloc (.cells #[.int .i64 0, .int .i64 0] 31))).keep k1); have K1 := hik ((((Chg.refl nob w).alloc _).alloc _).trans k1); clear k1; have c0 : W1.cell? ⟨w.heap.size + 1, 0, none⟩ = some (.int .i64 0) := R1.out.c0; have c1 : W1.cell? ⟨w.heap.size + 1, 1, none⟩ = some (.int .i64 0) := R1.out.c1; have f0 := R1.out.fz 0; have f1 := R1.out.fz 1; have a0 := E1.out.c0; have a1 := E1.out.c1)
    have u0 : ((W1.setCell ⟨w.heap.size + 1, 0, none⟩ (.int .i64 0)).setCell ⟨w.heap.size + 1, 1, none⟩ (.int .i64 0)).cell? ⟨w.heap.size + 1, 0, none⟩ = some (.int .i64 0) := (R1.out.set El.zr).c0
    have u1 : ((W1.setCell ⟨w.heap.size + 1, 0, none⟩ (.int .i64 0)).setCell ⟨w.heap.size + 1, 1, none⟩ (.int .i64 0)).cell? ⟨w.heap.size + 1, 1, none⟩ = some (.int .i64 0) := (R1.out.set El.zr).c1
    exact bodyPost_ret (v := .tuple #[.agg #[.int .i64 0, .int .i64 0], .int .i64 1]) (by simp [results, Try.results29, go_sem, u0, u1]) rfl ⟨rfl, chg2_at K1.out (w.heap.size + 1) (fun l => absurd l (by omega)) 0 1 (.int .i64 0) (.int .i64 0)⟩
  cases hk2 : eok a b
  · have HC := hik (show lnc f g n a b = 1 by unfold lnc; rw [if_neg hl, hk1, hk2]; rfl)
    have HV := hik (show lnv f g n a b = El.zr by unfold lnv; rw [HC.out]; rfl)
    rw [HC.out, HV.out]
    go_enter Try.func29, Try.ntmps29
    go_wp2_with (first | (go_at_call 62; refine (l02List_any c n cap f g _ (hik (h.out.keep (((Chg.refl nob w).alloc _).alloc _))) hn).mono ?_; rintro e W1 ⟨he, k1⟩; rw [hk1] at he; subst he; have R1 := hik (ElB.keep (by simpa using ElB.zero (w.alloc (.cells #[.int .i64 a, .int .i64 b] 31)) : ElB ((w.alloc (.cells #[.int .i64 a, .int .i64 b] 31)).alloc (.cells #[.int .i64 0, .int .i64 0] 31)) (w.heap.size + 1) El.zr) k1); have E1 := hik (((Elem.new w a b 31).keep ((Chg.refl nob _).alloc (.cells #[.int .i64 0, .int .i64 0] 31))).keep k1); have K1 := hik ((((Chg.refl nob w).alloc _).alloc _).trans k1); clear k1; have c0 : W1.cell? ⟨w.heap.size + 1, 0, none⟩ = some (.int .i64 0) := R1.out.c0; have c1 : W1.cell? ⟨w.heap.size + 1, 1, none⟩ = some (.int .i64 0) := R1.out.c1; have f0 := R1.out.fz 0; have f1 := R1.out.fz 1; have a0 := E1.out.c0; have a1 := E1.out.c1) | (go_at_call 63; refine (sExtOK_any a b _).mono ?_; rintro e W2 ⟨he, k2⟩; rw [hk2] at he; subst he; have R2 := hik (R1.out.keep k2); have E2 := hik (E1.out.keep k2); have K2 := hik (K1.out.trans k2); clear k2 c0 c1 f0 f1 a0 a1; have c0 : W2.cell? ⟨w.heap.size + 1, 0, none⟩ = some (.int .i64 0) := R2.out.c0; have c1 : W2.cell? ⟨w.heap.size + 1, 1, none⟩ = some (.int .i64 0) := R2.out.c1; have f0 := R2.out.fz 0; have f1 := R2.out.fz 1; have a0 := E2.out.c0; have a1 := E2.out.c1))
    have u0 : ((W2.setCell ⟨w.heap.size + 1, 0, none⟩ (.int .i64 0)).setCell ⟨w.heap.size + 1, 1, none⟩ (.int .i64 0)).cell? ⟨w.heap.size + 1, 0, none⟩ = some (.int .i64 0) := (R2.out.set El.zr).c0
    have u1 : ((W2.setCell ⟨w.heap.size + 1, 0, none⟩ (.int .i64 0)).setCell ⟨w.heap.size + 1, 1, none⟩ (.int .i64 0)).cell? ⟨w.heap.size + 1, 1, none⟩ = some (.int .i64 0) := (R2.out.set El.zr).c1
    exact bodyPost_ret (v := .tuple #[.agg #[.int .i64 0, .int .i64 0], .int .i64 1]) (by simp [results, Try.results29, go_sem, u0, u1]) rfl ⟨rfl, chg2_at K2.out (w.heap.size + 1) (fun l => absurd l (by omega)) 0 1 (.int .i64 0) (.int .i64 0)⟩
  by_cases hs1 : n < 1
  · have HC := hik (show lnc f g n a b = 8 by unfold lnc; rw [if_neg hl, hk1, hk2]; simp; omega)
    have HIN := hik (show inW (n : Int) 1 8 = false from decide_eq_false (by omega))
    have HV := hik (show lnv f g n a b = El.zr by unfold lnv; rw [HC.out]; rfl)
    rw [HC.out, HV.out]
    go_enter Try.func29, Try.ntmps29
    go_wp2_with (first | (go_at_call 62; refine (l02List_any c n cap f g _ (hik (h.out.keep (((Chg.refl nob w).alloc _).alloc _))) hn).mono ?_; rintro e W1 ⟨he, k1⟩; rw [hk1] at he; subst he; have R1 := hik (ElB.keep (by simpa using ElB.zero (w.alloc (.cells #[.int .i64 a, .int .i64 b] 31)) : ElB ((w.alloc (.cells #[.int .i64 a, .int .i64 b] 31)).alloc (.cells #[.int .i64 0, .int .i64 0] 31)) (w.heap.size + 1) El.zr) k1); have E1 := hik (((Elem.new w a b 31).keep ((Chg.refl nob _).alloc (.cells #[.int .i64 0, .int .i64 0] 31))).keep k1); have K1 := hik ((((Chg.refl nob w).alloc _).alloc _).trans k1); clear k1; have c0 : W1.cell? ⟨w.heap.size + 1, 0, none⟩ = some (.int .i64 0) := R1.out.c0; have c1 : W1.cell? ⟨w.heap.size + 1, 1, none⟩ = some (.int .i64 0) := R1.out.c1; have f0 := R1.out.fz 0; have f1 := R1.out.fz 1; have a0 := E1.out.c0; have a1 := E1.out.c1) | (go_at_call 63; refine (sExtOK_any a b _).mono ?_; rintro e W2 ⟨he, k2⟩; rw [hk2] at he; subst he; have R2 := hik (R1.out.keep k2); have E2 := hik (E1.out.keep k2); have K2 := hik (K1.out.trans k2); clear k2 c0 c1 f0 f1 a0 a1; have c0 : W2.cell? ⟨w.heap.size + 1, 0, none⟩ = some (.int .i64 0) := R2.out.c0; have c1 : W2.cell? ⟨w.heap.size + 1, 1, none⟩ = some (.int .i64 0) := R2.out.c1; have f0 := R2.out.fz 0; have f1 := R2.out.fz 1; have a0 := E2.out.c0; have a1 := E2.out.c1) | (go_at_call 65; refine (l01In_any (n : Int) 1 8 _).mono ?_; rintro e WI ⟨he, hwi⟩; have hwj := hwi.symm; clear hwi; subst hwj; rw [HIN.out] at he; subst he))
    have u0 : ((W2.setCell ⟨w.heap.size + 1, 0, none⟩ (.int .i64 0)).setCell ⟨w.heap.size + 1, 1, none⟩ (.int .i64 0)).cell? ⟨w.heap.size + 1, 0, none⟩ = some (.int .i64 0) := (R2.out.set El.zr).c0
    have u1 : ((W2.setCell ⟨w.heap.size + 1, 0, none⟩ (.int .i64 0)).setCell ⟨w.heap.size + 1, 1, none⟩ (.int .i64 0)).cell? ⟨w.heap.size + 1, 1, none⟩ = some (.int .i64 0) := (R2.out.set El.zr).c1
    exact bodyPost_ret (v := .tuple #[.agg #[.int .i64 0, .int .i64 0], .int .i64 8]) (by simp [results, Try.results29, go_sem, u0, u1]) rfl ⟨rfl, chg2_at K2.out (w.heap.size + 1) (fun l => absurd l (by omega)) 0 1 (.int .i64 0) (.int .i64 0)⟩
  by_cases hs8 : 8 < n
  · have HC := hik (show lnc f g n a b = 8 by unfold lnc; rw [if_neg hl, hk1, hk2]; simp; omega)
    have HIN := hik (show inW (n : Int) 1 8 = false from decide_eq_false (by omega))
    have HV := hik (show lnv f g n a b = El.zr by unfold lnv; rw [HC.out]; rfl)
    rw [HC.out, HV.out]
    go_enter Try.func29, Try.ntmps29
    go_wp2_with (first | (go_at_call 62; refine (l02List_any c n cap f g _ (hik (h.out.keep (((Chg.refl nob w).alloc _).alloc _))) hn).mono ?_; rintro e W1 ⟨he, k1⟩; rw [hk1] at he; subst he; have R1 := hik (ElB.keep (by simpa using ElB.zero (w.alloc (.cells #[.int .i64 a, .int .i64 b] 31)) : ElB ((w.alloc (.cells #[.int .i64 a, .int .i64 b] 31)).alloc (.cells #[.int .i64 0, .int .i64 0] 31)) (w.heap.size + 1) El.zr) k1); have E1 := hik (((Elem.new w a b 31).keep ((Chg.refl nob _).alloc (.cells #[.int .i64 0, .int .i64 0] 31))).keep k1); have K1 := hik ((((Chg.refl nob w).alloc _).alloc _).trans k1); clear k1; have c0 : W1.cell? ⟨w.heap.size + 1, 0, none⟩ = some (.int .i64 0) := R1.out.c0; have c1 : W1.cell? ⟨w.heap.size + 1, 1, none⟩ = some (.int .i64 0) := R1.out.c1; have f0 := R1.out.fz 0; have f1 := R1.out.fz 1; have a0 := E1.out.c0; have a1 := E1.out.c1) | (go_at_call 63; refine (sExtOK_any a b _).mono ?_; rintro e W2 ⟨he, k2⟩; rw [hk2] at he; subst he; have R2 := hik (R1.out.keep k2); have E2 := hik (E1.out.keep k2); have K2 := hik (K1.out.trans k2); clear k2 c0 c1 f0 f1 a0 a1; have c0 : W2.cell? ⟨w.heap.size + 1, 0, none⟩ = some (.int .i64 0) := R2.out.c0; have c1 : W2.cell? ⟨w.heap.size + 1, 1, none⟩ = some (.int .i64 0) := R2.out.c1; have f0 := R2.out.fz 0; have f1 := R2.out.fz 1; have a0 := E2.out.c0; have a1 := E2.out.c1) | (go_at_call 65; refine (l01In_any (n : Int) 1 8 _).mono ?_; rintro e WI ⟨he, hwi⟩; have hwj := hwi.symm; clear hwi; subst hwj; rw [HIN.out] at he; subst he))
    have u0 : ((W2.setCell ⟨w.heap.size + 1, 0, none⟩ (.int .i64 0)).setCell ⟨w.heap.size + 1, 1, none⟩ (.int .i64 0)).cell? ⟨w.heap.size + 1, 0, none⟩ = some (.int .i64 0) := (R2.out.set El.zr).c0
    have u1 : ((W2.setCell ⟨w.heap.size + 1, 0, none⟩ (.int .i64 0)).setCell ⟨w.heap.size + 1, 1, none⟩ (.int .i64 0)).cell? ⟨w.heap.size + 1, 1, none⟩ = some (.int .i64 0) := (R2.out.set El.zr).c1
    exact bodyPost_ret (v := .tuple #[.agg #[.int .i64 0, .int .i64 0], .int .i64 8]) (by simp [results, Try.results29, go_sem, u0, u1]) rfl ⟨rfl, chg2_at K2.out (w.heap.size + 1) (fun l => absurd l (by omega)) 0 1 (.int .i64 0) (.int .i64 0)⟩
  have HC := hik (show lnc f g n a b = 0 by unfold lnc; rw [if_neg hl, hk1, hk2]; simp; omega)
  have h8 : n ≤ 8 := by omega
  have HIN := hik (show inW (n : Int) 1 8 = true from decide_eq_true ⟨by omega, by omega⟩)
  obtain ⟨r, hra, hrb, hre⟩ : ∃ r : El, a = r.v.1 ∧ b = r.v.2 ∧ elP a b = r := ⟨elP a b, by rw [elP_v hk2], by rw [elP_v hk2], rfl⟩
  have HV := hik (show lnv f g n a b = El.lag (elF f g) r n by unfold lnv; rw [HC.out, if_pos rfl, hre])
  rw [HC.out, HV.out]
  have HP := hik (PairE.of h.out hk1)
  clear HC HV
  subst hra hrb
  clear hre
  go_enter Try.func29, Try.ntmps29
  go_wp2_with (first
    | (go_at_call 62; refine (l02List_any c n cap f g _ (hik (h.out.keep (((Chg.refl nob w).alloc _).alloc _))) hn).mono ?_; rintro e W1 ⟨he, k1⟩; rw [hk1] at he; subst he; have R1 := hik (ElB.keep (by simpa using ElB.zero (w.alloc (.cells #[.int .i64 r.v.1, .int .i64 r.v.2] 31)) : ElB ((w.alloc (.cells #[.int .i64 r.v.1, .int .i64 r.v.2] 31)).alloc (.cells #[.int .i64 0, .int .i64 0] 31)) (w.heap.size + 1) El.zr) k1); have E1 := hik (((Elem.new w r.v.1 r.v.2 31).keep ((Chg.refl nob _).alloc (.cells #[.int .i64 0, .int .i64 0] 31))).keep k1); have K1 := hik ((((Chg.refl nob w).alloc _).alloc _).trans k1); clear k1; have c0 : W1.cell? ⟨w.heap.size + 1, 0, none⟩ = some (.int .i64 0) := R1.out.c0; have c1 : W1.cell? ⟨w.heap.size + 1, 1, none⟩ = some (.int .i64 0) := R1.out.c1; have f0 := R1.out.fz 0; have f1 := R1.out.fz 1; have a0 := E1.out.c0; have a1 := E1.out.c1)
    | (go_at_call 63; refine (sExtOK_any r.v.1 r.v.2 _).mono ?_; rintro e W2 ⟨he, k2⟩; rw [hk2] at he; subst he; have R2 := hik (R1.out.keep k2); have E2 := hik (E1.out.keep k2); have K2 := hik (K1.out.trans k2); clear k2 c0 c1 f0 f1 a0 a1; have c0 : W2.cell? ⟨w.heap.size + 1, 0, none⟩ = some (.int .i64 0) := R2.out.c0; have c1 : W2.cell? ⟨w.heap.size + 1, 1, none⟩ = some (.int .i64 0) := R2.out.c1; have f0 := R2.out.fz 0; have f1 := R2.out.fz 1; have a0 := E2.out.c0; have a1 := E2.out.c1)
    | (go_at_call 65; refine (l01In_any (n : Int) 1 8 _).mono ?_; rintro e WI ⟨he, hwi⟩; have hwj := hwi.symm; clear hwi; subst hwj; rw [HIN.out] at he; subst he)
    | (go_at_call 66; refine (sLine_any c n cap (elF f g) r _ (hik (HP.out.keep K2.out)) h8).mono ?_; rintro e W3 ⟨rfl, k3⟩; have R3 := hik (R2.out.keep k3); have K3 := hik (K2.out.trans k3); clear k3 c0 c1 f0 f1 a0 a1; have c0 : W3.cell? ⟨w.heap.size + 1, 0, none⟩ = some (.int .i64 0) := R3.out.c0; have c1 : W3.cell? ⟨w.heap.size + 1, 1, none⟩ = some (.int .i64 0) := R3.out.c1; have f0 := R3.out.fz 0; have f1 := R3.out.fz 1))
  have u0 : ((W3.setCell ⟨w.heap.size + 1, 0, none⟩ (.int .i64 (El.lag (elF f g) r n).v.1)).setCell ⟨w.heap.size + 1, 1, none⟩ (.int .i64 (El.lag (elF f g) r n).v.2)).cell? ⟨w.heap.size + 1, 0, none⟩ = some (.int .i64 (El.lag (elF f g) r n).v.1) := (R3.out.set (El.lag (elF f g) r n)).c0
  have u1 : ((W3.setCell ⟨w.heap.size + 1, 0, none⟩ (.int .i64 (El.lag (elF f g) r n).v.1)).setCell ⟨w.heap.size + 1, 1, none⟩ (.int .i64 (El.lag (elF f g) r n).v.2)).cell? ⟨w.heap.size + 1, 1, none⟩ = some (.int .i64 (El.lag (elF f g) r n).v.2) := (R3.out.set (El.lag (elF f g) r n)).c1
  exact bodyPost_ret (v := .tuple #[.agg #[.int .i64 (El.lag (elF f g) r n).v.1, .int .i64 (El.lag (elF f g) r n).v.2], .int .i64 0]) (by simp [results, Try.results29, go_sem, u0, u1]) rfl ⟨rfl, chg2_at K3.out (w.heap.size + 1) (fun l => absurd l (by omega)) 0 1 (.int .i64 (El.lag (elF f g) r n).v.1) (.int .i64 (El.lag (elF f g) r n).v.2)⟩

end Go.Proofs.Ytmcdkmohjmcjbac

namespace Go.Proofs.Ytmcdkmohjmcjbac
open Go.ChangeShapes Go.WideShapes Go.ChangeAt Go.RowKit
set_option linter.unusedVariables false
set_option maxRecDepth 100000
set_option linter.unusedSimpArgs false

theorem lnc_el (t : Nat → El) (x : El) {n : Nat} (h1 : 1 ≤ n) (h8 : n ≤ 8) : lnc (cA t) (cB t) n x.v.1 x.v.2 = 0 := by unfold lnc; rw [if_neg (by omega), okP_el, eok_el, if_pos (by rfl), if_pos ⟨h1, h8⟩]
theorem lnv_el (t : Nat → El) (x : El) {n : Nat} (h1 : 1 ≤ n) (h8 : n ≤ 8) : lnv (cA t) (cB t) n x.v.1 x.v.2 = El.lag t x n := by unfold lnv; rw [lnc_el t x h1 h8, if_pos rfl, elF_el, elP_el]

theorem lin_el (c : Option Addr) (n cap : Nat) (t : Nat → El) (x : El) (a b : Int) (ha : a = x.v.1) (hb : b = x.v.2) (w : World) (h : Hid (PairE w c n t)) (h1 : 1 ≤ n) (h8 : n ≤ 8) : Calls Try.prog 27 #[.slice c n cap, .agg #[.int .i64 a, .int .i64 b]] w fun e w' => e = .returned (.tuple #[.agg #[.int .i64 (El.lag t x n).v.1, .int .i64 (El.lag t x n).v.2], .int .i64 0]) ∧ Chg nob w w' := by
  subst ha hb
  exact (lineX_any c n cap (cA t) (cB t) x.v.1 x.v.2 w h (by omega)).mono (fun e w' k => ⟨by rw [k.1, lnv_el t x h1 h8, lnc_el t x h1 h8], k.2⟩)

theorem sLin_el (c : Option Addr) (n cap : Nat) (t : Nat → El) (x : El) (a b : Int) (ha : a = x.v.1) (hb : b = x.v.2) (w : World) (h : Hid (PairE w c n t)) (h1 : 1 ≤ n) (h8 : n ≤ 8) : Calls Try.prog 29 #[.slice c n cap, .agg #[.int .i64 a, .int .i64 b]] w fun e w' => e = .returned (.tuple #[.agg #[.int .i64 (El.lag t x n).v.1, .int .i64 (El.lag t x n).v.2], .int .i64 0]) ∧ Chg nob w w' := by
  subst ha hb
  exact (sLineX_any c n cap (cA t) (cB t) x.v.1 x.v.2 w h (by omega)).mono (fun e w' k => ⟨by rw [k.1, lnv_el t x h1 h8, lnc_el t x h1 h8], k.2⟩)

end Go.Proofs.Ytmcdkmohjmcjbac
