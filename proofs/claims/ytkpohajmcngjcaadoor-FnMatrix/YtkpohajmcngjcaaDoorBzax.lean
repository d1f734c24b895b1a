/- Several texts in one: Rows of the greater field's elements, told by elements: words. No condition but those that each theorem states. · What the model's tables of points answer: contracts. Conditions: elements of the greater field, rows that can be read, points of at most six elements. -/
import Derived.Test.YtkpohajmcngjcaaDoorBzap
import Derived.Test.YtkpohajmcngjcaaDoorBzae
import Derived.Test.YtkpohajmcngjcaaDoorBzas
namespace Go.Proofs.YtkpohajmcngjcaaDoor
open Go.ChangeShapes Go.WideShapes Go.ChangeAt Go.RowKit
set_option linter.unusedVariables false
set_option maxRecDepth 100000
set_option linter.unusedSimpArgs false

/-- The parts of elements. -/
def cA (t : Nat → El) (i : Nat) : Int := (t i).v.1
def cB (t : Nat → El) (i : Nat) : Int := (t i).v.2
/-- Elements of parts. -/
theorem red_eok {a b : Int} (h : eok a b = true) : Fld.Red (a, b) := ⟨fok_lo (eok_a h), fok_hi (eok_a h), fok_lo (eok_b h), fok_hi (eok_b h)⟩
def elP (a b : Int) : El := if h : eok a b = true then ⟨(a, b), red_eok h⟩ else El.zr
theorem elP_v {a b : Int} (h : eok a b = true) : (elP a b).v = (a, b) := by unfold elP; rw [dif_pos h]
def elF (f g : Nat → Int) (i : Nat) : El := elP (f i) (g i)
theorem eok_el (x : El) : eok x.v.1 x.v.2 = true := eok_mk (fok_mk x.lo1 x.hi1) (fok_mk x.lo2 x.hi2)
theorem okP_el (t : Nat → El) (n : Nat) : okP (cA t) (cB t) n = true := okP_of _ _ n (fun i _ => eok_el (t i))
theorem cA_el {f g : Nat → Int} {n i : Nat} (h : okP f g n = true) (hi : i < n) : f i = cA (elF f g) i ∧ g i = cB (elF f g) i := by
  have e := elP_v (okP_all f g n h i hi)
  exact ⟨by rw [cA, elF, e], by rw [cB, elF, e]⟩
/-- n elements that can be read behind c. -/
def PairE (w : World) (c : Option Addr) (n : Nat) (t : Nat → El) : Prop := PairV w c n (cA t) (cB t)
theorem PairE.keep {w w' : World} {c : Option Addr} {n : Nat} {t : Nat → El} (h : PairE w c n t) (k : Chg nob w w') : PairE w' c n t := PairV.keep h k
theorem PairE.of {w : World} {c : Option Addr} {n : Nat} {f g : Nat → Int} (h : PairV w c n f g) (ho : okP f g n = true) : PairE w c n (elF f g) := PairV.congr h (fun i hi => cA_el ho hi)
theorem PairE.at_ {w : World} {c : Option Addr} {n : Nat} {t : Nat → El} (h : PairE w c n t) {i : Nat} (hi : i < n) : ∃ xb xo : Nat, c = some ⟨xb, xo, none⟩ ∧ xb < w.heap.size ∧ w.cell? ⟨xb, xo + i * 2, none⟩ = some (.int .i64 (t i).v.1) ∧ w.cell? ⟨xb, xo + i * 2 + 1, none⟩ = some (.int .i64 (t i).v.2) := h i hi
theorem PairE.c0 {w : World} {xb xo n : Nat} {t : Nat → El} (h : PairE w (some ⟨xb, xo, none⟩) n t) {i : Nat} (hi : i < n) : w.cell? ⟨xb, xo + i * 2, none⟩ = some (.int .i64 (t i).v.1) := by
  obtain ⟨xb', xo', e, _, e0, _⟩ := h.at_ hi
  cases e
  exact e0
theorem PairE.c1 {w : World} {xb xo n : Nat} {t : Nat → El} (h : PairE w (some ⟨xb, xo, none⟩) n t) {i : Nat} (hi : i < n) : w.cell? ⟨xb, xo + i * 2 + 1, none⟩ = some (.int .i64 (t i).v.2) := by
  obtain ⟨xb', xo', e, _, _, e1⟩ := h.at_ hi
  cases e
  exact e1
/-- A row of n elements in block b. -/
def RowE (W : World) (b n : Nat) (t : Nat → El) : Prop := W.rowIs b 40 (n * 2) (pf (cA t) (cB t))
theorem RowE.keep {W W' : World} {b n : Nat} {t : Nat → El} (h : RowE W b n t) (k : Chg nob W W') : RowE W' b n t := rowIs_keep h k
theorem RowE.lt {W : World} {b n : Nat} {t : Nat → El} (h : RowE W b n t) : b < W.heap.size := World.rowIs.lt h
theorem RowE.c0 {W : World} {b n : Nat} {t : Nat → El} (h : RowE W b n t) {i : Nat} (hi : i < n) : W.cell? ⟨b, i * 2, none⟩ = some (.int .i64 (t i).v.1) := by
  rw [World.rowIs.cell h (by omega), pf_even]; rfl
theorem RowE.c1 {W : World} {b n : Nat} {t : Nat → El} (h : RowE W b n t) {i : Nat} (hi : i < n) : W.cell? ⟨b, i * 2 + 1, none⟩ = some (.int .i64 (t i).v.2) := by
  rw [World.rowIs.cell h (by omega), pf_odd]; rfl
theorem RowE.congr {W : World} {b n : Nat} {t u : Nat → El} (h : RowE W b n t) (e : ∀ i, i < n → t i = u i) : RowE W b n u :=
  World.rowIs.congr h (fun i hi => by unfold pf cA cB; rw [e (i / 2) (by omega)])
theorem RowE.pairs {W : World} {b n : Nat} {t : Nat → El} (h : RowE W b n t) : PairE W (some ⟨b, 0, none⟩) n t := PairV.of_row h (Nat.le_refl _)
theorem RowE.own {W : World} {B b n : Nat} {t : Nat → El} (h : RowE W b n t) (hB : B ≤ b) : OwnE W B (some ⟨b, 0, none⟩) n (cA t) (cB t) := OwnE.of_row h hB
theorem RowE.other {W : World} {b g n : Nat} {t : Nat → El} (h : RowE W b n t) (hne : b ≠ g) (o o' : Nat) (u v : Value) : RowE ((W.setCell ⟨g, o, none⟩ u).setCell ⟨g, o', none⟩ v) b n t :=
  World.rowIs.setOther (a := ⟨g, o', none⟩) (World.rowIs.setOther (a := ⟨g, o, none⟩) h hne u) hne v
/-- One element of a list put anew. -/
def upE (t : Nat → El) (k : Nat) (x : El) (i : Nat) : El := if i = k then x else t i
theorem RowE.set {W : World} {b n : Nat} {t : Nat → El} (h : RowE W b n t) (k : Nat) (x : El) : RowE ((W.setCell ⟨b, k * 2, none⟩ (.int .i64 x.v.1)).setCell ⟨b, k * 2 + 1, none⟩ (.int .i64 x.v.2)) b n (upE t k x) :=
  World.rowIs.congr (World.rowIs.set (World.rowIs.set h (k * 2) _) (k * 2 + 1) _) (fun i hi => by
    by_cases e1 : i = k * 2 + 1
    · subst e1; simp [pf_odd, cB, upE]
    · by_cases e2 : i = k * 2
      · subst e2; simp [pf_even, cA, upE]
      · have e3 : ¬ i / 2 = k := by omega
        simp [e1, e2, pf, cA, cB, upE, e3])
theorem look_two {W : World} {g b o : Nat} {v : Value} (hne : b ≠ g) (c : W.cell? ⟨b, o, none⟩ = some v) (o1 o2 : Nat) (u u' : Value) : ((W.setCell ⟨g, o1, none⟩ u).setCell ⟨g, o2, none⟩ u').cell? ⟨b, o, none⟩ = some v := by
  rw [World.cell?_setCell_far _ _ _ _ (fun h => hne h.symm), World.cell?_setCell_far _ _ _ _ (fun h => hne h.symm), c]
theorem chg2_at {P : Nat → Prop} {w W : World} (h : Chg P w W) (g : Nat) (hg : g < w.heap.size → P g) (o o' : Nat) (u v : Value) : Chg P w ((W.setCell ⟨g, o, none⟩ u).setCell ⟨g, o', none⟩ v) :=
  (h.setCell (p := ⟨g, o, none⟩) hg u).setCell (p := ⟨g, o', none⟩) hg v

/- What sums, differences and products of elements come to, by the model. -/
theorem sAd_el (x y : El) (w : World) : Calls Tryd.prog 55 #[.agg #[.int .i64 x.v.1, .int .i64 x.v.2], .agg #[.int .i64 y.v.1, .int .i64 y.v.2]] w fun e w' => e = .returned (.agg #[.int .i64 (El.ad x y).v.1, .int .i64 (El.ad x y).v.2]) ∧ Chg nob w w' :=
  l02Add_any _ _ _ _ w x.lo1 x.hi1 x.lo2 x.hi2 y.lo1 y.hi1 y.lo2 y.hi2

theorem sSb_el (x y : El) (w : World) : Calls Tryd.prog 85 #[.agg #[.int .i64 x.v.1, .int .i64 x.v.2], .agg #[.int .i64 y.v.1, .int .i64 y.v.2]] w fun e w' => e = .returned (.agg #[.int .i64 (El.sb x y).v.1, .int .i64 (El.sb x y).v.2]) ∧ Chg nob w w' :=
  l02Sub_any _ _ _ _ w x.lo1 x.hi1 x.lo2 x.hi2 y.lo1 y.hi1 y.lo2 y.hi2

theorem sMl_el (x y : El) (w : World) : Calls Tryd.prog 56 #[.agg #[.int .i64 x.v.1, .int .i64 x.v.2], .agg #[.int .i64 y.v.1, .int .i64 y.v.2]] w fun e w' => e = .returned (.agg #[.int .i64 (El.ml x y).v.1, .int .i64 (El.ml x y).v.2]) ∧ Chg nob w w' :=
  l02Mul_any _ _ _ _ w x.lo1 x.hi1 x.lo2 x.hi2 y.lo1 y.hi1 y.lo2 y.hi2

/- And by the program. -/
theorem ad_el (x y : El) (w : World) : Calls Tryd.prog 30 #[.agg #[.int .i64 x.v.1, .int .i64 x.v.2], .agg #[.int .i64 y.v.1, .int .i64 y.v.2]] w fun e w' => e = .returned (.agg #[.int .i64 (El.ad x y).v.1, .int .i64 (El.ad x y).v.2]) ∧ Chg nob w w' :=
  plus_any _ _ _ _ w x.lo1 x.hi1 x.lo2 x.hi2 y.lo1 y.hi1 y.lo2 y.hi2

theorem sb_el (x y : El) (w : World) : Calls Tryd.prog 51 #[.agg #[.int .i64 x.v.1, .int .i64 x.v.2], .agg #[.int .i64 y.v.1, .int .i64 y.v.2]] w fun e w' => e = .returned (.agg #[.int .i64 (El.sb x y).v.1, .int .i64 (El.sb x y).v.2]) ∧ Chg nob w w' :=
  minus_any _ _ _ _ w x.lo1 x.hi1 x.lo2 x.hi2 y.lo1 y.hi1 y.lo2 y.hi2

theorem ml_el (x y : El) (w : World) : Calls Tryd.prog 29 #[.agg #[.int .i64 x.v.1, .int .i64 x.v.2], .agg #[.int .i64 y.v.1, .int .i64 y.v.2]] w fun e w' => e = .returned (.agg #[.int .i64 (El.ml x y).v.1, .int .i64 (El.ml x y).v.2]) ∧ Chg nob w w' :=
  times_any _ _ _ _ w x.lo1 x.hi1 x.lo2 x.hi2 y.lo1 y.hi1 y.lo2 y.hi2

end Go.Proofs.YtkpohajmcngjcaaDoor

namespace Go.Proofs.YtkpohajmcngjcaaDoor
open Go.ChangeShapes Go.WideShapes Go.ChangeAt Go.RowKit
set_option linter.unusedVariables false
set_option maxRecDepth 100000
set_option linter.unusedSimpArgs false

set_option maxHeartbeats 1000000 in
theorem sOne_el (w : World) : Calls Tryd.prog 73 #[] w fun e w' => e = .returned (.agg #[.int .i64 El.on.v.1, .int .i64 El.on.v.2]) ∧ Chg nob w w' := by
  go_enter Tryd.func73, Tryd.ntmps73
  go_wp2_with fail
  refine (l02Of_any _ _).mono ?_
  rintro e W1 ⟨rfl, rfl⟩
  go_wp2
  exact bodyPost_ret (v := .agg #[.int .i64 1, .int .i64 0]) (by simp [results, Tryd.results73, go_sem]) rfl ⟨rfl, (by repeat (first | with_reducible exact Chg.refl _ _ | with_reducible refine Chg.alloc ?_ _ | with_reducible refine Chg.drewN ?_ _ | with_reducible refine Chg.drew ?_ | with_reducible refine Chg.setCell ?_ (fun l => absurd l (by dsimp only; omega)) _ | with_reducible refine Chg.trans ?_ (by assumption)))⟩

set_option maxHeartbeats 1000000 in
theorem sLess_el (x : El) (w : World) : Calls Tryd.prog 74 #[.agg #[.int .i64 x.v.1, .int .i64 x.v.2]] w fun e w' => e = .returned (.agg #[.int .i64 (El.sb El.on x).v.1, .int .i64 (El.sb El.on x).v.2]) ∧ Chg nob w w' := by
  go_enter Tryd.func74, Tryd.ntmps74
  go_wp2
  have x0 : ((w.alloc (.cells #[.int .i64 x.v.1, .int .i64 x.v.2] 40)).alloc (.cells #[.int .i64 0, .int .i64 0] 40)).cell? ⟨w.heap.size, 0, none⟩ = some (.int .i64 x.v.1) := by go_simp
  have x1 : ((w.alloc (.cells #[.int .i64 x.v.1, .int .i64 x.v.2] 40)).alloc (.cells #[.int .i64 0, .int .i64 0] 40)).cell? ⟨w.heap.size, 1, none⟩ = some (.int .i64 x.v.2) := by go_simp
  have R0 : Hid (((w.alloc (.cells #[.int .i64 x.v.1, .int .i64 x.v.2] 40)).alloc (.cells #[.int .i64 0, .int .i64 0] 40)).rowIs (w.heap.size + 1) 40 2 (pv2 (.int .i64 0) (.int .i64 0))) := hik (by simpa using row2_new (w.alloc (.cells #[.int .i64 x.v.1, .int .i64 x.v.2] 40)) (.int .i64 0) (.int .i64 0) 40)
  have KW := hik ((Chg.refl nob ((w.alloc (.cells #[.int .i64 x.v.1, .int .i64 x.v.2] 40)).alloc (.cells #[.int .i64 0, .int .i64 0] 40))).drew1)
  have SA := hik (fun (WW : World) (kW : Chg nob ((w.alloc (.cells #[.int .i64 x.v.1, .int .i64 x.v.2] 40)).alloc (.cells #[.int .i64 0, .int .i64 0] 40)) WW) => (show (WW.cell? ⟨w.heap.size, 0, none⟩ = some (.int .i64 x.v.1) ∧ WW.cell? ⟨w.heap.size, 1, none⟩ = some (.int .i64 x.v.2)) from ⟨kW.see x0, kW.see x1⟩))
  refine wp_region_held_drew (S := fun w' => w'.cell? ⟨w.heap.size, 0, none⟩ = some (.int .i64 x.v.1) ∧ w'.cell? ⟨w.heap.size, 1, none⟩ = some (.int .i64 x.v.2)) (by kernel_rfl) ⟨x0, x1⟩ (fun hHeld => ?_)
  refine wpAnyH_take (i := 1) (v := ?_) rfl (by kernel_rfl) (by kernel_rfl) (by kernel_rfl) (fun _ _ _ h => h) (Or.inl ⟨by rfl, ?_⟩) (by assumption) ?_
  rotate_left 1
  · (intro w' hSw; (try dsimp only at hSw); go_simp; try with_reducible rfl)
  try simp only [Act.put, List.setIfInBounds_toArray, List.set_cons_zero, List.set_cons_succ, List.getElem_toArray, List.getElem_cons_zero, List.getElem_cons_succ]
  refine wpAnyH_ready (rs := [0]) (by kernel_rfl) (by simp) ?_
  refine AllReadyH.cons rfl (fun K hK => ?_) AllReadyH.nil
  refine stepL_callN 73 #[] #[] (by rfl) (by rfl) #[] (by simp only [List.map_toArray, List.map_cons, List.map_nil] <;> rfl) (run_go Tryd.func73 (by kernel_rfl) (by kernel_rfl) _ _) (sOne_el _) ?_
  rintro e U1 ⟨he, kk⟩
  refine ⟨_, he, ?_⟩
  replace KW := hik (KW.out.trans kk)
  refine hK.out _ _ (SA.out _ KW.out) (fun hHeld => ?_)
  clear hK K
  try simp only [Act.put, List.setIfInBounds_toArray, List.set_cons_zero, List.set_cons_succ, List.getElem_toArray, List.getElem_cons_zero, List.getElem_cons_succ]
  clear he kk
  refine wpAnyH_ready (rs := [2]) (by kernel_rfl) (by simp) ?_
  refine AllReadyH.cons rfl (fun K hK => ?_) AllReadyH.nil
  refine stepL_callN 85 #[.tmp 3, .tmp 4] #[40, 40] (by rfl) (by rfl) #[.agg #[.int .i64 El.on.v.1, .int .i64 El.on.v.2], .agg #[.int .i64 x.v.1, .int .i64 x.v.2]] (by simp only [List.map_toArray, List.map_cons, List.map_nil] <;> rfl) (run_go Tryd.func85 (by kernel_rfl) (by kernel_rfl) _ _) (sSb_el El.on x _) ?_
  rintro e U2 ⟨he, kk⟩
  refine ⟨_, he, ?_⟩
  replace KW := hik (KW.out.trans kk)
  refine hK.out _ _ (SA.out _ KW.out) (fun hHeld => ?_)
  clear hK K
  try simp only [Act.put, List.setIfInBounds_toArray, List.set_cons_zero, List.set_cons_succ, List.getElem_toArray, List.getElem_cons_zero, List.getElem_cons_succ]
  clear he kk
  refine wpAnyH_ready (rs := [3]) (by kernel_rfl) (by simp) ?_
  refine AllReadyH.cons rfl (fun K hK => ?_) AllReadyH.nil
  have R1 := hik (rowIs_keep R0.out KW.out)
  have l1 : w.heap.size + 1 < U2.heap.size := R1.out.lt
  have y0 := R1.out.cell (i := 0) (by omega)
  have y1 := R1.out.cell (i := 1) (by omega)
  have f0 := R1.out.frozen 0
  have f1 := R1.out.frozen 1
  simp only [List.getElem_toArray, List.getElem_cons_zero, List.getElem_cons_succ]
  go_simp
  refine hK.out _ _ ⟨look_two (by omega) (SA.out _ KW.out).1 0 1 _ _, look_two (by omega) (SA.out _ KW.out).2 0 1 _ _⟩ (fun hHeld => ?_)
  clear hK K
  try simp only [Act.put, List.setIfInBounds_toArray, List.set_cons_zero, List.set_cons_succ, List.getElem_toArray, List.getElem_cons_zero, List.getElem_cons_succ]
  refine wpAnyH_done (by kernel_rfl) ?_ _
  go_wp2
  have R2 := hik (row2_set R1.out (.int .i64 (El.sb El.on x).v.1) (.int .i64 (El.sb El.on x).v.2))
  have u0 : ((U2.setCell ⟨w.heap.size + 1, 0, none⟩ (.int .i64 (El.sb El.on x).v.1)).setCell ⟨w.heap.size + 1, 1, none⟩ (.int .i64 (El.sb El.on x).v.2)).cell? ⟨w.heap.size + 1, 0, none⟩ = some (.int .i64 (El.sb El.on x).v.1) := R2.out.cell (by omega)
  have u1 : ((U2.setCell ⟨w.heap.size + 1, 0, none⟩ (.int .i64 (El.sb El.on x).v.1)).setCell ⟨w.heap.size + 1, 1, none⟩ (.int .i64 (El.sb El.on x).v.2)).cell? ⟨w.heap.size + 1, 1, none⟩ = some (.int .i64 (El.sb El.on x).v.2) := R2.out.cell (by omega)
  exact bodyPost_ret (v := .agg #[.int .i64 (El.sb El.on x).v.1, .int .i64 (El.sb El.on x).v.2]) (by simp [results, Tryd.results74, go_sem, u0, u1]) rfl ⟨rfl, chg2_at (((((Chg.refl nob w).alloc _).alloc _)).trans KW.out) _ (fun l => absurd l (by simp)) _ _ _ _⟩

/-- A table half way to the next: the first k of each half. -/
def nxt (t : Nat → El) (r : El) (N k i : Nat) : El := if i < N then (if i < k then El.ml (t i) (El.sb El.on r) else El.zr) else (if i < N + k then El.ml (t (i - N)) r else El.zr)
theorem nxt_zero (t : Nat → El) (r : El) (N i : Nat) : nxt t r N 0 i = El.zr := by
  unfold nxt
  by_cases h : i < N
  · rw [if_pos h, if_neg (by omega)]
  · rw [if_neg h, if_neg (by omega)]
theorem nxt_step (t : Nat → El) (r : El) {N k : Nat} (hk : k < N) (i : Nat) : upE (upE (nxt t r N k) k (El.ml (t k) (El.sb El.on r))) (k + N) (El.ml (t k) r) i = nxt t r N (k + 1) i := by
  unfold upE nxt
  by_cases e1 : i = k + N
  · subst e1
    rw [if_pos rfl, if_neg (by omega), if_pos (by omega), show k + N - N = k by omega]
  · rw [if_neg e1]
    by_cases e2 : i = k
    · subst e2
      rw [if_pos rfl, if_pos hk, if_pos (by omega)]
    · rw [if_neg e2]
      by_cases h : i < N
      · rw [if_pos h, if_pos h]
        by_cases h2 : i < k
        · rw [if_pos h2, if_pos (by omega)]
        · rw [if_neg h2, if_neg (by omega)]
      · rw [if_neg h, if_neg h]
        by_cases h2 : i < N + k
        · rw [if_pos h2, if_pos (by omega)]
        · rw [if_neg h2, if_neg (by omega)]
theorem nxt_all (p : Nat → El) (j : Nat) {i : Nat} (hi : i < 2 * 2 ^ j) : nxt (El.eqp p j) (p j) (2 ^ j) (2 ^ j) i = El.eqp p (j + 1) i := by
  unfold nxt
  by_cases h : i < 2 ^ j
  · rw [if_pos h, if_pos h, El.eqp_lo h]
  · rw [if_neg h, if_pos (by omega)]
    have e := El.eqp_hi (p := p) (n := j) (i := i - 2 ^ j) (by omega)
    rw [show 2 ^ j + (i - 2 ^ j) = i by omega] at e
    exact e.symm
/-- A table of a call's own. -/
def TbAns (w : World) (n : Nat) (t : Nat → El) (e : Ending) (w' : World) : Prop :=
  ∃ b : Nat, e = .returned (.slice (some ⟨b, 0, none⟩) n n) ∧ w.heap.size ≤ b ∧ RowE w' b n t ∧ Chg nob w w'

set_option maxHeartbeats 2000000 in
theorem sEq_any (c : Option Addr) (n cap : Nat) (p : Nat → El) (w : World) (h : Hid (PairE w c n p)) (hn : n ≤ 6) : Calls Tryd.prog 54 #[.slice c n cap] w fun e w' => TbAns w (2 ^ n) (El.eqp p n) e w' := by
  obtain ⟨i0, hi, hz0, hz1, hz2⟩ := info_parts infoExt
  have HI := hik hi
  have HZ0 := hik hz0
  have HZ1 := hik hz1
  have HZ2 := hik hz2
  clear hi hz0 hz1 hz2
  go_enter Tryd.func54, Tryd.ntmps54
  go_wp2_with fail
  refine (sOne_el _).mono ?_
  rintro e W1 ⟨rfl, k1⟩
  have G := hik k1
  clear k1
  go_wp2
  go_loopw [3, 4] (fun o i W => ∃ (k N b : Nat), k ≤ n ∧ i = .int .i64 k ∧ o = .slice (some ⟨b, 0, none⟩) N N ∧ Hid (N = 2 ^ k) ∧ Hid (w.heap.size ≤ b) ∧ Hid (RowE W b N (El.eqp p k)) ∧ Hid (Chg nob w W)) (fun o i _ => n - (intOf i).toNat)
  case atStart => exact ⟨0, 1, W1.heap.size, Nat.zero_le _, rfl, rfl, hik rfl, hik G.out.size, hik (World.rowIs.congr (row2_new W1 _ _ _) (fun i hi => by rcases (by omega : i = 0 ∨ i = 1) with rfl | rfl <;> rfl)), hik (G.out.alloc _)⟩
  case round =>
    clear G
    obtain ⟨j, N, b, hj, rfl, rfl, HN, HBb, HR, HC⟩ := hrel
    rename World => wo
    have hN6 : N ≤ 64 := by rw [HN.out]; exact Nat.le_trans (Nat.pow_le_pow_right (by omega) (show j ≤ 6 by omega)) (by decide)
    by_cases hlt : j < n
    · have hlt' : (j : Int) < (n : Int) := by omega
      have hj0 : (0 : Int) ≤ (j : Int) := by omega
      obtain ⟨xb, xo, ec, hxb, _, _⟩ := PairE.at_ (PairE.keep h.out HC.out) hlt
      subst ec
      have HXB := hik hxb
      clear hxb
      have hb16 : i0.bytes * (2 * N) ≤ 281474976710656 := by rw [HZ2.out]; omega
      go_wp2_with (at_make; refine wpList_make_pairs _ rfl (.tmp 17) (.tmp 17) 38 rfl 40 i0 Tryd.underlying38 HI.out HZ0.out HZ1.out .i64 .i64 _ _ (2 * N) rfl rfl (by omega) (by omega) hb16 (by omega) ?_)
      intro W2 hr2 hk2
      have R2 := hik (show RowE W2 wo.heap.size (2 * N) (nxt (El.eqp p j) (p j) N 0) from World.rowIs.congr hr2 (fun i _ => by unfold pf cA cB; rw [nxt_zero]; split <;> rfl))
      have K2 := hik hk2
      have L2 := hik (show b < wo.heap.size from RowE.lt HR.out)
      have P2 := hik (HC.out.trans hk2)
      clear hr2 hk2 hb16
      go_wp2
      go_loopw [6] (fun i W => ∃ k : Nat, k ≤ N ∧ i = .int .i64 k ∧ Hid (RowE W wo.heap.size (2 * N) (nxt (El.eqp p j) (p j) N k)) ∧ Hid (RowE W b N (El.eqp p j)) ∧ Hid (Chg nob w W)) (fun i _ => N - (intOf i).toNat)
      case atStart => exact ⟨0, Nat.zero_le _, rfl, R2, hik (RowE.keep HR.out K2.out), P2⟩
      case round =>
        clear R2 K2 P2
        obtain ⟨k, hk, rfl, RI, QI, GI⟩ := hrel
        rename World => wi
        by_cases hkl : k < N
        · have hk0 : (0 : Int) ≤ (k : Int) := by omega
          have hk1 : (k : Int) < (N : Int) := by omega
          have hk2 : (k : Int) < 2 * (N : Int) := by omega
          obtain ⟨q, hq⟩ : ∃ q, q = k + N := ⟨_, rfl⟩
          have HQ := hik hq
          have hq0 : (0 : Int) ≤ (q : Int) := by omega
          have hq2 : (q : Int) < 2 * (N : Int) := by omega
          have hwq : IntKind.i64.wrap ((k : Int) + (N : Int)) = (q : Int) := by rw [IntKind.wrap_i64]; omega
          have hxb : xb < wi.heap.size := by have := HXB.out; have := RowE.lt RI.out; omega
          have hbl : b < wi.heap.size := RowE.lt QI.out
          have hnl : wo.heap.size < wi.heap.size := RowE.lt RI.out
          have hne1 : xb ≠ wo.heap.size := by have := HXB.out; omega
          have hne2 : b ≠ wo.heap.size := by have := L2.out; omega
          clear hq
          have o0 := RowE.c0 QI.out hkl
          have o1 := RowE.c1 QI.out hkl
          have p0 := PairE.c0 (PairE.keep h.out GI.out) hlt
          have p1 := PairE.c1 (PairE.keep h.out GI.out) hlt
          go_wp2
          have KW := hik ((Chg.refl nob wi).drew1)
          have SA := hik (fun (WW : World) (kW : Chg nob wi WW) => (show (WW.cell? ⟨b, k * 2, none⟩ = some (.int .i64 (El.eqp p j k).v.1) ∧ WW.cell? ⟨b, k * 2 + 1, none⟩ = some (.int .i64 (El.eqp p j k).v.2) ∧ WW.cell? ⟨xb, xo + j * 2, none⟩ = some (.int .i64 (p j).v.1) ∧ WW.cell? ⟨xb, xo + j * 2 + 1, none⟩ = some (.int .i64 (p j).v.2)) from ⟨kW.see o0, kW.see o1, kW.see p0, kW.see p1⟩))
          refine wp_region_held_drew (S := fun w' => w'.cell? ⟨b, k * 2, none⟩ = some (.int .i64 (El.eqp p j k).v.1) ∧ w'.cell? ⟨b, k * 2 + 1, none⟩ = some (.int .i64 (El.eqp p j k).v.2) ∧ w'.cell? ⟨xb, xo + j * 2, none⟩ = some (.int .i64 (p j).v.1) ∧ w'.cell? ⟨xb, xo + j * 2 + 1, none⟩ = some (.int .i64 (p j).v.2)) (by kernel_rfl) ⟨o0, o1, p0, p1⟩ (fun hHeld => ?_)
          refine wpAnyH_take (i := 0) (v := ?_) rfl (by kernel_rfl) (by kernel_rfl) (by kernel_rfl) (fun _ _ _ h => h) (Or.inl ⟨by rfl, ?_⟩) (by assumption) ?_
          rotate_left 1
          · (intro w' hSw; (try dsimp only at hSw); go_simp; try with_reducible rfl)
          try simp only [Act.put, List.setIfInBounds_toArray, List.set_cons_zero, List.set_cons_succ, List.getElem_toArray, List.getElem_cons_zero, List.getElem_cons_succ]
          refine wpAnyH_take (i := 1) (v := ?_) rfl (by kernel_rfl) (by kernel_rfl) (by kernel_rfl) (fun _ _ _ h => h) (Or.inl ⟨by rfl, ?_⟩) (by assumption) ?_
          rotate_left 1
          · (intro w' hSw; (try dsimp only at hSw); go_simp; try with_reducible rfl)
          try simp only [Act.put, List.setIfInBounds_toArray, List.set_cons_zero, List.set_cons_succ, List.getElem_toArray, List.getElem_cons_zero, List.getElem_cons_succ]
          refine wpAnyH_take (i := 2) (v := ?_) rfl (by kernel_rfl) (by kernel_rfl) (by kernel_rfl) (fun _ _ _ h => h) (Or.inl ⟨by rfl, ?_⟩) (by assumption) ?_
          rotate_left 1
          · (intro w' hSw; (try dsimp only at hSw); go_simp; try with_reducible rfl)
          try simp only [Act.put, List.setIfInBounds_toArray, List.set_cons_zero, List.set_cons_succ, List.getElem_toArray, List.getElem_cons_zero, List.getElem_cons_succ]
          refine wpAnyH_take (i := 3) (v := ?_) rfl (by kernel_rfl) (by kernel_rfl) (by kernel_rfl) (fun _ _ _ h => h) (Or.inl ⟨by rfl, ?_⟩) (by assumption) ?_
          rotate_left 1
          · (intro w' hSw; (try dsimp only at hSw); go_simp; try with_reducible rfl)
          try simp only [Act.put, List.setIfInBounds_toArray, List.set_cons_zero, List.set_cons_succ, List.getElem_toArray, List.getElem_cons_zero, List.getElem_cons_succ]
          refine wpAnyH_take (i := 4) (v := ?_) rfl (by kernel_rfl) (by kernel_rfl) (by kernel_rfl) (fun _ _ _ h => h) (Or.inl ⟨by rfl, ?_⟩) (by assumption) ?_
          rotate_left 1
          · (intro w' hSw; (try dsimp only at hSw); go_simp; try with_reducible rfl)
          try simp only [Act.put, List.setIfInBounds_toArray, List.set_cons_zero, List.set_cons_succ, List.getElem_toArray, List.getElem_cons_zero, List.getElem_cons_succ]
          refine wpAnyH_take (i := 5) (v := ?_) rfl (by kernel_rfl) (by kernel_rfl) (by kernel_rfl) (fun _ _ _ h => h) (Or.inl ⟨by rfl, ?_⟩) (by assumption) ?_
          rotate_left 1
          · (intro w' hSw; (try dsimp only at hSw); go_simp; try with_reducible rfl)
          try simp only [Act.put, List.setIfInBounds_toArray, List.set_cons_zero, List.set_cons_succ, List.getElem_toArray, List.getElem_cons_zero, List.getElem_cons_succ]
          refine wpAnyH_take (i := 6) (v := ?_) rfl (by kernel_rfl) (by kernel_rfl) (by kernel_rfl) (fun _ _ _ h => h) (Or.inl ⟨by rfl, ?_⟩) (by assumption) ?_
          rotate_left 1
          · (intro w' hSw; (try dsimp only at hSw); go_simp; try with_reducible rfl)
          try simp only [Act.put, List.setIfInBounds_toArray, List.set_cons_zero, List.set_cons_succ, List.getElem_toArray, List.getElem_cons_zero, List.getElem_cons_succ]
          refine wpAnyH_take (i := 7) (v := ?_) rfl (by kernel_rfl) (by kernel_rfl) (by kernel_rfl) (fun _ _ _ h => h) (Or.inl ⟨by rfl, ?_⟩) (by assumption) ?_
          rotate_left 1
          · (intro w' hSw; (try dsimp only at hSw); go_simp; try with_reducible rfl)
          try simp only [Act.put, List.setIfInBounds_toArray, List.set_cons_zero, List.set_cons_succ, List.getElem_toArray, List.getElem_cons_zero, List.getElem_cons_succ]
          refine wpAnyH_take (i := 8) (v := ?_) rfl (by kernel_rfl) (by kernel_rfl) (by kernel_rfl) (fun _ _ _ h => h) (Or.inl ⟨by rfl, ?_⟩) (by assumption) ?_
          rotate_left 1
          · (intro w' hSw; (try dsimp only at hSw); go_simp; try with_reducible rfl)
          try simp only [Act.put, List.setIfInBounds_toArray, List.set_cons_zero, List.set_cons_succ, List.getElem_toArray, List.getElem_cons_zero, List.getElem_cons_succ]
          refine wpAnyH_take (i := 9) (v := ?_) rfl (by kernel_rfl) (by kernel_rfl) (by kernel_rfl) (fun _ _ _ h => h) (Or.inl ⟨by rfl, ?_⟩) (by assumption) ?_
          rotate_left 1
          · (intro w' hSw; (try dsimp only at hSw); go_simp; try with_reducible rfl)
          try simp only [Act.put, List.setIfInBounds_toArray, List.set_cons_zero, List.set_cons_succ, List.getElem_toArray, List.getElem_cons_zero, List.getElem_cons_succ]
          refine wpAnyH_ready (rs := [10]) (by kernel_rfl) (by simp) ?_
          refine AllReadyH.cons rfl (fun K hK => ?_) AllReadyH.nil
          refine stepL_callN 74 #[.tmp 34] #[40] (by rfl) (by rfl) #[.agg #[.int .i64 (p j).v.1, .int .i64 (p j).v.2]] (by simp only [List.map_toArray, List.map_cons, List.map_nil] <;> rfl) (run_go Tryd.func74 (by kernel_rfl) (by kernel_rfl) _ _) (sLess_el (p j) _) ?_
          rintro e U1 ⟨he, kk⟩
          refine ⟨_, he, ?_⟩
          replace KW := hik (KW.out.trans kk)
          refine hK.out _ _ (SA.out _ KW.out) (fun hHeld => ?_)
          clear hK K
          try simp only [Act.put, List.setIfInBounds_toArray, List.set_cons_zero, List.set_cons_succ, List.getElem_toArray, List.getElem_cons_zero, List.getElem_cons_succ]
          clear he kk
          refine wpAnyH_ready (rs := [11]) (by kernel_rfl) (by simp) ?_
          refine AllReadyH.cons rfl (fun K hK => ?_) AllReadyH.nil
          refine stepL_callN 56 #[.tmp 30, .tmp 35] #[40, 40] (by rfl) (by rfl) #[.agg #[.int .i64 (El.eqp p j k).v.1, .int .i64 (El.eqp p j k).v.2], .agg #[.int .i64 (El.sb El.on (p j)).v.1, .int .i64 (El.sb El.on (p j)).v.2]] (by simp only [List.map_toArray, List.map_cons, List.map_nil] <;> rfl) (run_go Tryd.func56 (by kernel_rfl) (by kernel_rfl) _ _) (sMl_el (El.eqp p j k) (El.sb El.on (p j)) _) ?_
          rintro e U2 ⟨he, kk⟩
          refine ⟨_, he, ?_⟩
          replace KW := hik (KW.out.trans kk)
          refine hK.out _ _ (SA.out _ KW.out) (fun hHeld => ?_)
          clear hK K
          try simp only [Act.put, List.setIfInBounds_toArray, List.set_cons_zero, List.set_cons_succ, List.getElem_toArray, List.getElem_cons_zero, List.getElem_cons_succ]
          clear he kk
          refine wpAnyH_take (i := 12) (v := ?_) rfl (by kernel_rfl) (by kernel_rfl) (by kernel_rfl) (fun _ _ _ h => h) (Or.inl ⟨by rfl, ?_⟩) (by assumption) ?_
          rotate_left 1
          · (intro w' hSw; (try dsimp only at hSw); go_simp; try with_reducible rfl)
          try simp only [Act.put, List.setIfInBounds_toArray, List.set_cons_zero, List.set_cons_succ, List.getElem_toArray, List.getElem_cons_zero, List.getElem_cons_succ]
          refine wpAnyH_ready (rs := [13]) (by kernel_rfl) (by simp) ?_
          refine AllReadyH.cons rfl (fun K hK => ?_) AllReadyH.nil
          have RN := hik (RowE.keep RI.out KW.out)
          have g0 := RowE.c0 RN.out (i := k) (by omega)
          have g1 := RowE.c1 RN.out (i := k) (by omega)
          have f0 := World.rowIs.frozen RN.out (k * 2)
          have f1 := World.rowIs.frozen RN.out (k * 2 + 1)
          have ln : wo.heap.size < U2.heap.size := RowE.lt RN.out
          simp only [List.getElem_toArray, List.getElem_cons_zero, List.getElem_cons_succ]
          go_simp
          refine hK.out _ _ ⟨look_two hne2 (SA.out _ KW.out).1 _ _ _ _, look_two hne2 (SA.out _ KW.out).2.1 _ _ _ _, look_two hne1 (SA.out _ KW.out).2.2.1 _ _ _ _, look_two hne1 (SA.out _ KW.out).2.2.2 _ _ _ _⟩ (fun hHeld => ?_)
          clear hK K
          try simp only [Act.put, List.setIfInBounds_toArray, List.set_cons_zero, List.set_cons_succ, List.getElem_toArray, List.getElem_cons_zero, List.getElem_cons_succ]
          clear g0 g1 f0 f1 ln
          refine wpAnyH_done (by kernel_rfl) ?_ _
          have R9 := hik (RowE.set RN.out k (El.ml (El.eqp p j k) (El.sb El.on (p j))))
          have Q9 := hik (RowE.other (RowE.keep QI.out KW.out) hne2 (k * 2) (k * 2 + 1) (.int .i64 (El.ml (El.eqp p j k) (El.sb El.on (p j))).v.1) (.int .i64 (El.ml (El.eqp p j k) (El.sb El.on (p j))).v.2))
          have G9 := hik (chg2_at (GI.out.trans KW.out) wo.heap.size (fun l => absurd l (by have := HBb.out; have := L2.out; omega)) (k * 2) (k * 2 + 1) (.int .i64 (El.ml (El.eqp p j k) (El.sb El.on (p j))).v.1) (.int .i64 (El.ml (El.eqp p j k) (El.sb El.on (p j))).v.2))
          generalize hE9 : ((U2.setCell ⟨wo.heap.size, k * 2, none⟩ (.int .i64 (El.ml (El.eqp p j k) (El.sb El.on (p j))).v.1)).setCell ⟨wo.heap.size, k * 2 + 1, none⟩ (.int .i64 (El.ml (El.eqp p j k) (El.sb El.on (p j))).v.2)) = W9 at R9 Q9 G9 ⊢
          clear hE9 RN KW SA hHeld o0 o1 p0 p1
          clear RI QI GI hxb hbl hnl
          have hxb : xb < W9.heap.size := by have := HXB.out; have := RowE.lt R9.out; omega
          have hbl : b < W9.heap.size := RowE.lt Q9.out
          have hnl : wo.heap.size < W9.heap.size := RowE.lt R9.out
          have o0 := RowE.c0 Q9.out hkl
          have o1 := RowE.c1 Q9.out hkl
          have p0 := PairE.c0 (PairE.keep h.out G9.out) hlt
          have p1 := PairE.c1 (PairE.keep h.out G9.out) hlt
          go_wp2
          have KW := hik ((Chg.refl nob W9).drew1)
          have SA := hik (fun (WW : World) (kW : Chg nob W9 WW) => (show (WW.cell? ⟨b, k * 2, none⟩ = some (.int .i64 (El.eqp p j k).v.1) ∧ WW.cell? ⟨b, k * 2 + 1, none⟩ = some (.int .i64 (El.eqp p j k).v.2) ∧ WW.cell? ⟨xb, xo + j * 2, none⟩ = some (.int .i64 (p j).v.1) ∧ WW.cell? ⟨xb, xo + j * 2 + 1, none⟩ = some (.int .i64 (p j).v.2)) from ⟨kW.see o0, kW.see o1, kW.see p0, kW.see p1⟩))
          refine wp_region_held_drew (S := fun w' => w'.cell? ⟨b, k * 2, none⟩ = some (.int .i64 (El.eqp p j k).v.1) ∧ w'.cell? ⟨b, k * 2 + 1, none⟩ = some (.int .i64 (El.eqp p j k).v.2) ∧ w'.cell? ⟨xb, xo + j * 2, none⟩ = some (.int .i64 (p j).v.1) ∧ w'.cell? ⟨xb, xo + j * 2 + 1, none⟩ = some (.int .i64 (p j).v.2)) (by kernel_rfl) ⟨o0, o1, p0, p1⟩ (fun hHeld => ?_)
          refine wpAnyH_take (i := 0) (v := ?_) rfl (by kernel_rfl) (by kernel_rfl) (by kernel_rfl) (fun _ _ _ h => h) (Or.inl ⟨by rfl, ?_⟩) (by assumption) ?_
          rotate_left 1
          · (intro w' hSw; (try dsimp only at hSw); go_simp; try with_reducible rfl)
          try simp only [Act.put, List.setIfInBounds_toArray, List.set_cons_zero, List.set_cons_succ, List.getElem_toArray, List.getElem_cons_zero, List.getElem_cons_succ]
          refine wpAnyH_take (i := 1) (v := ?_) rfl (by kernel_rfl) (by kernel_rfl) (by kernel_rfl) (fun _ _ _ h => h) (Or.inl ⟨by rfl, ?_⟩) (by assumption) ?_
          rotate_left 1
          · (intro w' hSw; (try dsimp only at hSw); go_simp; try with_reducible rfl)
          try simp only [Act.put, List.setIfInBounds_toArray, List.set_cons_zero, List.set_cons_succ, List.getElem_toArray, List.getElem_cons_zero, List.getElem_cons_succ]
          refine wpAnyH_take (i := 2) (v := ?_) rfl (by kernel_rfl) (by kernel_rfl) (by kernel_rfl) (fun _ _ _ h => h) (Or.inl ⟨by rfl, ?_⟩) (by assumption) ?_
          rotate_left 1
          · (intro w' hSw; (try dsimp only at hSw); go_simp; try with_reducible rfl)
          try simp only [Act.put, List.setIfInBounds_toArray, List.set_cons_zero, List.set_cons_succ, List.getElem_toArray, List.getElem_cons_zero, List.getElem_cons_succ]
          refine wpAnyH_take (i := 3) (v := ?_) rfl (by kernel_rfl) (by kernel_rfl) (by kernel_rfl) (fun _ _ _ h => h) (Or.inl ⟨by rfl, ?_⟩) (by assumption) ?_
          rotate_left 1
          · (intro w' hSw; (try dsimp only at hSw); go_simp; try with_reducible rfl)
          try simp only [Act.put, List.setIfInBounds_toArray, List.set_cons_zero, List.set_cons_succ, List.getElem_toArray, List.getElem_cons_zero, List.getElem_cons_succ]
          refine wpAnyH_take (i := 4) (v := .int .i64 (q : Int)) rfl (by kernel_rfl) (by kernel_rfl) (by kernel_rfl) (fun _ _ _ h => h) (Or.inl ⟨by rfl, ?_⟩) (by assumption) ?_
          · (intro w' hSw; (try dsimp only at hSw); go_simp; first | done | exact hwq)
          try simp only [Act.put, List.setIfInBounds_toArray, List.set_cons_zero, List.set_cons_succ, List.getElem_toArray, List.getElem_cons_zero, List.getElem_cons_succ]
          refine wpAnyH_take (i := 5) (v := ?_) rfl (by kernel_rfl) (by kernel_rfl) (by kernel_rfl) (fun _ _ _ h => h) (Or.inl ⟨by rfl, ?_⟩) (by assumption) ?_
          rotate_left 1
          · (intro w' hSw; (try dsimp only at hSw); go_simp; try with_reducible rfl)
          try simp only [Act.put, List.setIfInBounds_toArray, List.set_cons_zero, List.set_cons_succ, List.getElem_toArray, List.getElem_cons_zero, List.getElem_cons_succ]
          refine wpAnyH_take (i := 6) (v := ?_) rfl (by kernel_rfl) (by kernel_rfl) (by kernel_rfl) (fun _ _ _ h => h) (Or.inl ⟨by rfl, ?_⟩) (by assumption) ?_
          rotate_left 1
          · (intro w' hSw; (try dsimp only at hSw); go_simp; try with_reducible rfl)
          try simp only [Act.put, List.setIfInBounds_toArray, List.set_cons_zero, List.set_cons_succ, List.getElem_toArray, List.getElem_cons_zero, List.getElem_cons_succ]
          refine wpAnyH_take (i := 7) (v := ?_) rfl (by kernel_rfl) (by kernel_rfl) (by kernel_rfl) (fun _ _ _ h => h) (Or.inl ⟨by rfl, ?_⟩) (by assumption) ?_
          rotate_left 1
          · (intro w' hSw; (try dsimp only at hSw); go_simp; try with_reducible rfl)
          try simp only [Act.put, List.setIfInBounds_toArray, List.set_cons_zero, List.set_cons_succ, List.getElem_toArray, List.getElem_cons_zero, List.getElem_cons_succ]
          refine wpAnyH_take (i := 8) (v := ?_) rfl (by kernel_rfl) (by kernel_rfl) (by kernel_rfl) (fun _ _ _ h => h) (Or.inl ⟨by rfl, ?_⟩) (by assumption) ?_
          rotate_left 1
          · (intro w' hSw; (try dsimp only at hSw); go_simp; try with_reducible rfl)
          try simp only [Act.put, List.setIfInBounds_toArray, List.set_cons_zero, List.set_cons_succ, List.getElem_toArray, List.getElem_cons_zero, List.getElem_cons_succ]
          refine wpAnyH_take (i := 9) (v := ?_) rfl (by kernel_rfl) (by kernel_rfl) (by kernel_rfl) (fun _ _ _ h => h) (Or.inl ⟨by rfl, ?_⟩) (by assumption) ?_
          rotate_left 1
          · (intro w' hSw; (try dsimp only at hSw); go_simp; try with_reducible rfl)
          try simp only [Act.put, List.setIfInBounds_toArray, List.set_cons_zero, List.set_cons_succ, List.getElem_toArray, List.getElem_cons_zero, List.getElem_cons_succ]
          refine wpAnyH_take (i := 10) (v := ?_) rfl (by kernel_rfl) (by kernel_rfl) (by kernel_rfl) (fun _ _ _ h => h) (Or.inl ⟨by rfl, ?_⟩) (by assumption) ?_
          rotate_left 1
          · (intro w' hSw; (try dsimp only at hSw); go_simp; try with_reducible rfl)
          try simp only [Act.put, List.setIfInBounds_toArray, List.set_cons_zero, List.set_cons_succ, List.getElem_toArray, List.getElem_cons_zero, List.getElem_cons_succ]
          refine wpAnyH_take (i := 11) (v := ?_) rfl (by kernel_rfl) (by kernel_rfl) (by kernel_rfl) (fun _ _ _ h => h) (Or.inl ⟨by rfl, ?_⟩) (by assumption) ?_
          rotate_left 1
          · (intro w' hSw; (try dsimp only at hSw); go_simp; try with_reducible rfl)
          try simp only [Act.put, List.setIfInBounds_toArray, List.set_cons_zero, List.set_cons_succ, List.getElem_toArray, List.getElem_cons_zero, List.getElem_cons_succ]
          refine wpAnyH_take (i := 12) (v := ?_) rfl (by kernel_rfl) (by kernel_rfl) (by kernel_rfl) (fun _ _ _ h => h) (Or.inl ⟨by rfl, ?_⟩) (by assumption) ?_
          rotate_left 1
          · (intro w' hSw; (try dsimp only at hSw); go_simp; try with_reducible rfl)
          try simp only [Act.put, List.setIfInBounds_toArray, List.set_cons_zero, List.set_cons_succ, List.getElem_toArray, List.getElem_cons_zero, List.getElem_cons_succ]
          refine wpAnyH_ready (rs := [13]) (by kernel_rfl) (by simp) ?_
          refine AllReadyH.cons rfl (fun K hK => ?_) AllReadyH.nil
          refine stepL_callN 56 #[.tmp 46, .tmp 50] #[40, 40] (by rfl) (by rfl) #[.agg #[.int .i64 (El.eqp p j k).v.1, .int .i64 (El.eqp p j k).v.2], .agg #[.int .i64 (p j).v.1, .int .i64 (p j).v.2]] (by simp only [List.map_toArray, List.map_cons, List.map_nil] <;> rfl) (run_go Tryd.func56 (by kernel_rfl) (by kernel_rfl) _ _) (sMl_el (El.eqp p j k) (p j) _) ?_
          rintro e U1 ⟨he, kk⟩
          refine ⟨_, he, ?_⟩
          replace KW := hik (KW.out.trans kk)
          refine hK.out _ _ (SA.out _ KW.out) (fun hHeld => ?_)
          clear hK K
          try simp only [Act.put, List.setIfInBounds_toArray, List.set_cons_zero, List.set_cons_succ, List.getElem_toArray, List.getElem_cons_zero, List.getElem_cons_succ]
          clear he kk
          refine wpAnyH_take (i := 14) (v := ?_) rfl (by kernel_rfl) (by kernel_rfl) (by kernel_rfl) (fun _ _ _ h => h) (Or.inl ⟨by rfl, ?_⟩) (by assumption) ?_
          rotate_left 1
          · (intro w' hSw; (try dsimp only at hSw); go_simp; try with_reducible rfl)
          try simp only [Act.put, List.setIfInBounds_toArray, List.set_cons_zero, List.set_cons_succ, List.getElem_toArray, List.getElem_cons_zero, List.getElem_cons_succ]
          refine wpAnyH_ready (rs := [15]) (by kernel_rfl) (by simp) ?_
          refine AllReadyH.cons rfl (fun K hK => ?_) AllReadyH.nil
          have RN := hik (RowE.keep R9.out KW.out)
          have g0 := RowE.c0 RN.out (i := q) (by omega)
          have g1 := RowE.c1 RN.out (i := q) (by omega)
          have f0 := World.rowIs.frozen RN.out (q * 2)
          have f1 := World.rowIs.frozen RN.out (q * 2 + 1)
          have ln : wo.heap.size < U1.heap.size := RowE.lt RN.out
          simp only [List.getElem_toArray, List.getElem_cons_zero, List.getElem_cons_succ]
          go_simp
          refine hK.out _ _ ⟨look_two hne2 (SA.out _ KW.out).1 _ _ _ _, look_two hne2 (SA.out _ KW.out).2.1 _ _ _ _, look_two hne1 (SA.out _ KW.out).2.2.1 _ _ _ _, look_two hne1 (SA.out _ KW.out).2.2.2 _ _ _ _⟩ (fun hHeld => ?_)
          clear hK K
          try simp only [Act.put, List.setIfInBounds_toArray, List.set_cons_zero, List.set_cons_succ, List.getElem_toArray, List.getElem_cons_zero, List.getElem_cons_succ]
          clear g0 g1 f0 f1 ln
          refine wpAnyH_done (by kernel_rfl) ?_ _
          have RX := hik (RowE.set RN.out q (El.ml (El.eqp p j k) (p j)))
          have QX := hik (RowE.other (RowE.keep Q9.out KW.out) hne2 (q * 2) (q * 2 + 1) (.int .i64 (El.ml (El.eqp p j k) (p j)).v.1) (.int .i64 (El.ml (El.eqp p j k) (p j)).v.2))
          have GX := hik (chg2_at (G9.out.trans KW.out) wo.heap.size (fun l => absurd l (by have := HBb.out; have := L2.out; omega)) (q * 2) (q * 2 + 1) (.int .i64 (El.ml (El.eqp p j k) (p j)).v.1) (.int .i64 (El.ml (El.eqp p j k) (p j)).v.2))
          generalize hEX : ((U1.setCell ⟨wo.heap.size, q * 2, none⟩ (.int .i64 (El.ml (El.eqp p j k) (p j)).v.1)).setCell ⟨wo.heap.size, q * 2 + 1, none⟩ (.int .i64 (El.ml (El.eqp p j k) (p j)).v.2)) = WX at RX QX GX ⊢
          clear hEX RN KW SA hHeld o0 o1 p0 p1
          have RX2 := hik (RowE.congr (u := nxt (El.eqp p j) (p j) N (k + 1)) RX.out (fun i _ => by rw [HQ.out]; exact nxt_step (El.eqp p j) (p j) hkl i))
          go_wp2
          go_roundw
          case rel => exact ⟨k + 1, by omega, by go_num, RX2, QX, GX⟩
          case measure => simp [intOf]; omega
        · obtain rfl : N = k := by omega
          have RZ := hik (RowE.congr (u := El.eqp p (j + 1)) RI.out (fun i hi => by rw [HN.out] at hi ⊢; exact nxt_all p j hi))
          have HN2 := hik (show 2 * N = 2 ^ (j + 1) by rw [HN.out, Nat.pow_succ]; omega)
          have HB2 := hik (show w.heap.size ≤ wo.heap.size by have := HBb.out; have := L2.out; omega)
          go_wp2
          go_roundw
          case rel => exact ⟨j + 1, 2 * N, wo.heap.size, by omega, by go_num, rfl, HN2, HB2, RZ, GI⟩
          case measure => simp [intOf]; omega
    · obtain rfl : n = j := by omega
      obtain rfl : N = 2 ^ n := HN.out
      go_wp2
      go_ret
      exact ⟨b, rfl, HBb.out, HR.out, HC.out⟩

end Go.Proofs.YtkpohajmcngjcaaDoor
