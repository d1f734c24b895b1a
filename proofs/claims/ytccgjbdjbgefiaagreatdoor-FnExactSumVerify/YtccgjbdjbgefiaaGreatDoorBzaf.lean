/- Several texts in one: Steps of a region that draws its order, taken by hand: laws. No program is named here. · Rows of the greater field's elements, told by elements: words. No condition but those that each theorem states. · Elements in blocks of their own, slices of elements of a call's own: words. No condition but those that each theorem states. · Lists of lists of elements: words on memory. No condition but those that each theorem states. -/
import Derived.Test.YtccgjbdjbgefiaaGreatDoorBzae
import Derived.Deep.RegionHeld
import Derived.Test.YtccgjbdjbgefiaaGreatDoorBzaa
import Derived.Test.YtccgjbdjbgefiaaGreatDoorBzab
namespace Go.Proofs.YtccgjbdjbgefiaaGreatDoor
open Go.RowKit
set_option linter.unusedVariables false

section
variable {P : Program} {ops : Array Oper} {o : Oper} {a : Act} {w : World} {K : Act → World → Prop} {Q : Exit → Act → World → Prop} {E : Prop}
/-- A conversion, a step of a region that draws its order. -/
theorem stepL_conv (src dst : TypeId) (x : Operand) (hop : o.op = .convert src dst x) (hw : Region.wanted o (yielded ops a.tmps) = true) (u v : Value) (W : World) (hx : a.eval x = u) (hrun : (convert src dst u).run P w = .ok v W) (hK : K (a.put o.dst v) W) :
    if Region.wanted o (yielded ops a.tmps) = true then Oper.wp P o a w K Q else E := by
  rw [if_pos hw]
  unfold Oper.wp
  have e1 : execOp a.eval o = (do pure (.value (← convert src dst (a.eval x)))) := by
    obtain ⟨dst', op, ty, pos, after, guard⟩ := o
    simp only at hop
    subst hop
    rfl
  rw [e1, hx]
  simp only [Sem.run_bind, hrun, Result.andThen, Sem.run_pure]
  exact hK
/-- The same with any arguments. -/
theorem stepL_callN (f : FuncId) (xs : Array Operand) (ats : Array TypeId) (hop : o.op = .call { callee := .value (.func f), args := xs, argTypes := ats }) (hw : Region.wanted o (yielded ops a.tmps) = true) (args : Array Value) (hargs : xs.map a.eval = args) (hcf : (callFunc f args).run P w = .ok (.enter f args) w) {R : Ending → World → Prop} (h : Calls P f args w R) (hR : ∀ e W, R e W → ∃ v, e = .returned v ∧ K (a.put o.dst v) W) :
    if Region.wanted o (yielded ops a.tmps) = true then Oper.wp P o a w K Q else E := by
  rw [if_pos hw]
  unfold Oper.wp
  have e1 : execOp a.eval o = callFunc f (#[] ++ xs.map a.eval ++ #[]) := by
    obtain ⟨dst', op, ty, pos, after, guard⟩ := o
    simp only at hop
    subst hop
    rfl
  rw [e1, show (#[] ++ xs.map a.eval ++ #[]) = args by rw [hargs]; simp, hcf, Oper.upon_enter]
  exact h.mono (fun e W r => by
    obtain ⟨v, rfl, k⟩ := hR e W r
    exact k)
end
theorem run_go {P : Program} {f : FuncId} {fn : Func} (hf : P.funcs[f]? = some fn) (hb : fn.body.isNone = false) (hn : (fn.name == "runtime.NumGoroutine") = false) (args : Array Value) (w : World) : (callFunc f args).run P w = .ok (.enter f args) w := by
  have hb' : ¬ fn.body = none := fun h => by rw [h] at hb; cases hb
  have hn' : ¬ fn.name = "runtime.NumGoroutine" := fun h => by rw [h] at hn; simp at hn
  simp [callFunc, hf, Result.andThen]
  rw [if_neg hn', if_neg hb']

end Go.Proofs.YtccgjbdjbgefiaaGreatDoor

namespace Go.Proofs.YtccgjbdjbgefiaaGreatDoor
open Go.ChangeShapes Go.WideShapes Go.ChangeAt Go.RowKit
set_option linter.unusedVariables false
set_option maxRecDepth 100000
set_option linter.unusedSimpArgs false

/-- The parts of elements. -/
def cA (t : Nat → El) (i : Nat) : Int := (t i).v.1
def cB (t : Nat → El) (i : Nat) : Int := (t i).v.2
/-- Elements of parts. -/
theorem red_eok {a b : Int} (h : eok a b = true) : Fld.Red (a, b) := ⟨fok_lo (eok_a h), fok_hi (eok_a h), fok_lo (eok_b h), fok_hi (eok_b h)⟩
def elP (a b : Int) : El := if h : eok a b = true then ⟨(a, b), red_eok h⟩ else El.zr
theorem elP_v {a b : Int} (h : eok a b = true) : (elP a b).v = (a, b) := by unfold elP; rw [dif_pos h]
def elF (f g : Nat → Int) (i : Nat) : El := elP (f i) (g i)
theorem eok_el (x : El) : eok x.v.1 x.v.2 = true := eok_mk (fok_mk x.lo1 x.hi1) (fok_mk x.lo2 x.hi2)
theorem okP_el (t : Nat → El) (n : Nat) : okP (cA t) (cB t) n = true := okP_of _ _ n (fun i _ => eok_el (t i))
theorem cA_el {f g : Nat → Int} {n i : Nat} (h : okP f g n = true) (hi : i < n) : f i = cA (elF f g) i ∧ g i = cB (elF f g) i := by
  have e := elP_v (okP_all f g n h i hi)
  exact ⟨by rw [cA, elF, e], by rw [cB, elF, e]⟩
/-- n elements that can be read behind c. -/
def PairE (w : World) (c : Option Addr) (n : Nat) (t : Nat → El) : Prop := PairV w c n (cA t) (cB t)
theorem PairE.keep {w w' : World} {c : Option Addr} {n : Nat} {t : Nat → El} (h : PairE w c n t) (k : Chg nob w w') : PairE w' c n t := PairV.keep h k
theorem PairE.of {w : World} {c : Option Addr} {n : Nat} {f g : Nat → Int} (h : PairV w c n f g) (ho : okP f g n = true) : PairE w c n (elF f g) := PairV.congr h (fun i hi => cA_el ho hi)
theorem PairE.at_ {w : World} {c : Option Addr} {n : Nat} {t : Nat → El} (h : PairE w c n t) {i : Nat} (hi : i < n) : ∃ xb xo : Nat, c = some ⟨xb, xo, none⟩ ∧ xb < w.heap.size ∧ w.cell? ⟨xb, xo + i * 2, none⟩ = some (.int .i64 (t i).v.1) ∧ w.cell? ⟨xb, xo + i * 2 + 1, none⟩ = some (.int .i64 (t i).v.2) := h i hi
theorem PairE.c0 {w : World} {xb xo n : Nat} {t : Nat → El} (h : PairE w (some ⟨xb, xo, none⟩) n t) {i : Nat} (hi : i < n) : w.cell? ⟨xb, xo + i * 2, none⟩ = some (.int .i64 (t i).v.1) := by
  obtain ⟨xb', xo', e, _, e0, _⟩ := h.at_ hi
  cases e
  exact e0
theorem PairE.c1 {w : World} {xb xo n : Nat} {t : Nat → El} (h : PairE w (some ⟨xb, xo, none⟩) n t) {i : Nat} (hi : i < n) : w.cell? ⟨xb, xo + i * 2 + 1, none⟩ = some (.int .i64 (t i).v.2) := by
  obtain ⟨xb', xo', e, _, _, e1⟩ := h.at_ hi
  cases e
  exact e1
/-- A row of n elements in block b. -/
def RowE (W : World) (b n : Nat) (t : Nat → El) : Prop := W.rowIs b 31 (n * 2) (pf (cA t) (cB t))
theorem RowE.keep {W W' : World} {b n : Nat} {t : Nat → El} (h : RowE W b n t) (k : Chg nob W W') : RowE W' b n t := rowIs_keep h k
theorem RowE.lt {W : World} {b n : Nat} {t : Nat → El} (h : RowE W b n t) : b < W.heap.size := World.rowIs.lt h
theorem RowE.c0 {W : World} {b n : Nat} {t : Nat → El} (h : RowE W b n t) {i : Nat} (hi : i < n) : W.cell? ⟨b, i * 2, none⟩ = some (.int .i64 (t i).v.1) := by
  rw [World.rowIs.cell h (by omega), pf_even]; rfl
theorem RowE.c1 {W : World} {b n : Nat} {t : Nat → El} (h : RowE W b n t) {i : Nat} (hi : i < n) : W.cell? ⟨b, i * 2 + 1, none⟩ = some (.int .i64 (t i).v.2) := by
  rw [World.rowIs.cell h (by omega), pf_odd]; rfl
theorem RowE.congr {W : World} {b n : Nat} {t u : Nat → El} (h : RowE W b n t) (e : ∀ i, i < n → t i = u i) : RowE W b n u :=
  World.rowIs.congr h (fun i hi => by unfold pf cA cB; rw [e (i / 2) (by omega)])
theorem RowE.pairs {W : World} {b n : Nat} {t : Nat → El} (h : RowE W b n t) : PairE W (some ⟨b, 0, none⟩) n t := PairV.of_row h (Nat.le_refl _)
theorem RowE.own {W : World} {B b n : Nat} {t : Nat → El} (h : RowE W b n t) (hB : B ≤ b) : OwnE W B (some ⟨b, 0, none⟩) n (cA t) (cB t) := OwnE.of_row h hB
theorem RowE.other {W : World} {b g n : Nat} {t : Nat → El} (h : RowE W b n t) (hne : b ≠ g) (o o' : Nat) (u v : Value) : RowE ((W.setCell ⟨g, o, none⟩ u).setCell ⟨g, o', none⟩ v) b n t :=
  World.rowIs.setOther (a := ⟨g, o', none⟩) (World.rowIs.setOther (a := ⟨g, o, none⟩) h hne u) hne v
/-- One element of a list put anew. -/
def upE (t : Nat → El) (k : Nat) (x : El) (i : Nat) : El := if i = k then x else t i
theorem RowE.set {W : World} {b n : Nat} {t : Nat → El} (h : RowE W b n t) (k : Nat) (x : El) : RowE ((W.setCell ⟨b, k * 2, none⟩ (.int .i64 x.v.1)).setCell ⟨b, k * 2 + 1, none⟩ (.int .i64 x.v.2)) b n (upE t k x) :=
  World.rowIs.congr (World.rowIs.set (World.rowIs.set h (k * 2) _) (k * 2 + 1) _) (fun i hi => by
    by_cases e1 : i = k * 2 + 1
    · subst e1; simp [pf_odd, cB, upE]
    · by_cases e2 : i = k * 2
      · subst e2; simp [pf_even, cA, upE]
      · have e3 : ¬ i / 2 = k := by omega
        simp [e1, e2, pf, cA, cB, upE, e3])
theorem chg2_at {P : Nat → Prop} {w W : World} (h : Chg P w W) (g : Nat) (hg : g < w.heap.size → P g) (o o' : Nat) (u v : Value) : Chg P w ((W.setCell ⟨g, o, none⟩ u).setCell ⟨g, o', none⟩ v) :=
  (h.setCell (p := ⟨g, o, none⟩) hg u).setCell (p := ⟨g, o', none⟩) hg v

/- What sums, differences and products of elements come to, by the model. -/
theorem sAd_el (x y : El) (w : World) : Calls Tryz.prog 39 #[.agg #[.int .i64 x.v.1, .int .i64 x.v.2], .agg #[.int .i64 y.v.1, .int .i64 y.v.2]] w fun e w' => e = .returned (.agg #[.int .i64 (El.ad x y).v.1, .int .i64 (El.ad x y).v.2]) ∧ Chg nob w w' :=
  l02Add_any _ _ _ _ w x.lo1 x.hi1 x.lo2 x.hi2 y.lo1 y.hi1 y.lo2 y.hi2

theorem sSb_el (x y : El) (w : World) : Calls Tryz.prog 63 #[.agg #[.int .i64 x.v.1, .int .i64 x.v.2], .agg #[.int .i64 y.v.1, .int .i64 y.v.2]] w fun e w' => e = .returned (.agg #[.int .i64 (El.sb x y).v.1, .int .i64 (El.sb x y).v.2]) ∧ Chg nob w w' :=
  l02Sub_any _ _ _ _ w x.lo1 x.hi1 x.lo2 x.hi2 y.lo1 y.hi1 y.lo2 y.hi2

theorem sMl_el (x y : El) (w : World) : Calls Tryz.prog 62 #[.agg #[.int .i64 x.v.1, .int .i64 x.v.2], .agg #[.int .i64 y.v.1, .int .i64 y.v.2]] w fun e w' => e = .returned (.agg #[.int .i64 (El.ml x y).v.1, .int .i64 (El.ml x y).v.2]) ∧ Chg nob w w' :=
  l02Mul_any _ _ _ _ w x.lo1 x.hi1 x.lo2 x.hi2 y.lo1 y.hi1 y.lo2 y.hi2

/- And by the program. -/
theorem ad_el (x y : El) (w : World) : Calls Tryz.prog 32 #[.agg #[.int .i64 x.v.1, .int .i64 x.v.2], .agg #[.int .i64 y.v.1, .int .i64 y.v.2]] w fun e w' => e = .returned (.agg #[.int .i64 (El.ad x y).v.1, .int .i64 (El.ad x y).v.2]) ∧ Chg nob w w' :=
  plus_any _ _ _ _ w x.lo1 x.hi1 x.lo2 x.hi2 y.lo1 y.hi1 y.lo2 y.hi2

theorem sb_el (x y : El) (w : World) : Calls Tryz.prog 52 #[.agg #[.int .i64 x.v.1, .int .i64 x.v.2], .agg #[.int .i64 y.v.1, .int .i64 y.v.2]] w fun e w' => e = .returned (.agg #[.int .i64 (El.sb x y).v.1, .int .i64 (El.sb x y).v.2]) ∧ Chg nob w w' :=
  minus_any _ _ _ _ w x.lo1 x.hi1 x.lo2 x.hi2 y.lo1 y.hi1 y.lo2 y.hi2

theorem ml_el (x y : El) (w : World) : Calls Tryz.prog 53 #[.agg #[.int .i64 x.v.1, .int .i64 x.v.2], .agg #[.int .i64 y.v.1, .int .i64 y.v.2]] w fun e w' => e = .returned (.agg #[.int .i64 (El.ml x y).v.1, .int .i64 (El.ml x y).v.2]) ∧ Chg nob w w' :=
  times_any _ _ _ _ w x.lo1 x.hi1 x.lo2 x.hi2 y.lo1 y.hi1 y.lo2 y.hi2

end Go.Proofs.YtccgjbdjbgefiaaGreatDoor

namespace Go.Proofs.YtccgjbdjbgefiaaGreatDoor
open Go.ChangeShapes Go.WideShapes Go.ChangeAt Go.RowKit
set_option linter.unusedVariables false
set_option maxRecDepth 100000
set_option linter.unusedSimpArgs false

/-- No element. -/
def zE (_ : Nat) : El := El.zr
/-- Elements copied into a table. -/
def fitE (t : Nat → El) (n : Nat) (u : Nat → El) (i : Nat) : El := if i < n then t i else u i
/-- An element in a block of its own. -/
def ElB (W : World) (b : Nat) (x : El) : Prop := W.rowIs b 31 2 (pv2 (.int .i64 x.v.1) (.int .i64 x.v.2))
theorem ElB.new (W : World) (x : El) : ElB (W.alloc (.cells #[.int .i64 x.v.1, .int .i64 x.v.2] 31)) W.heap.size x := row2_new W _ _ _
theorem ElB.zero (W : World) : ElB (W.alloc (.cells #[.int .i64 0, .int .i64 0] 31)) W.heap.size El.zr := row2_new W _ _ _
theorem ElB.keep {W W' : World} {b : Nat} {x : El} (h : ElB W b x) (k : Chg nob W W') : ElB W' b x := rowIs_keep h k
theorem ElB.chg {P : Nat → Prop} {W W' : World} {b : Nat} {x : El} (h : ElB W b x) (k : Chg P W W') (hp : ¬ P b) : ElB W' b x := rowIs_chg h k hp
theorem ElB.lt {W : World} {b : Nat} {x : El} (h : ElB W b x) : b < W.heap.size := World.rowIs.lt h
theorem ElB.c0 {W : World} {b : Nat} {x : El} (h : ElB W b x) : W.cell? ⟨b, 0, none⟩ = some (.int .i64 x.v.1) := row2_c0 h
theorem ElB.c1 {W : World} {b : Nat} {x : El} (h : ElB W b x) : W.cell? ⟨b, 1, none⟩ = some (.int .i64 x.v.2) := row2_c1 h
theorem ElB.fz {W : World} {b : Nat} {x : El} (h : ElB W b x) (o : Nat) : W.frozen? ⟨b, o, none⟩ = false := World.rowIs.frozen h o
theorem ElB.set {W : World} {b : Nat} {x : El} (h : ElB W b x) (y : El) : ElB ((W.setCell ⟨b, 0, none⟩ (.int .i64 y.v.1)).setCell ⟨b, 1, none⟩ (.int .i64 y.v.2)) b y := row2_set h _ _
theorem ElB.other {W : World} {b g : Nat} {x : El} (h : ElB W b x) (hne : b ≠ g) (o o' : Nat) (u v : Value) : ElB ((W.setCell ⟨g, o, none⟩ u).setCell ⟨g, o', none⟩ v) b x :=
  World.rowIs.setOther (a := ⟨g, o', none⟩) (World.rowIs.setOther (a := ⟨g, o, none⟩) h hne u) hne v

/-- A slice of elements of a call's own, or none. -/
def SlAns (w : World) (n : Nat) (t : Nat → El) (e : Ending) (w' : World) : Prop :=
  ∃ (c : Option Addr) (cap : Nat), e = .returned (.slice c n cap) ∧ n ≤ cap ∧ (cap : Int) ≤ 9223372036854775807 ∧ OwnE w' w.heap.size c n (cA t) (cB t) ∧ Chg nob w w'

end Go.Proofs.YtccgjbdjbgefiaaGreatDoor

namespace Go.Proofs.YtccgjbdjbgefiaaGreatDoor
open Go.ChangeShapes Go.WideShapes Go.ChangeAt Go.RowKit
set_option linter.unusedVariables false
set_option maxRecDepth 100000
set_option linter.unusedSimpArgs false

/-- n lists that can be read behind c: list i is A i, of length L i, its parts f i, g i. -/
def RowsV (w : World) (c : Option Addr) (n : Nat) (A : Nat → Option Addr) (L C : Nat → Nat) (f g : Nat → Nat → Int) : Prop :=
  ∀ i, i < n → ∃ xb xo : Nat, c = some ⟨xb, xo, none⟩ ∧ xb < w.heap.size ∧ w.cell? ⟨xb, xo + i, none⟩ = some (.slice (A i) (L i) (C i)) ∧ PairV w (A i) (L i) (f i) (g i)
theorem RowsV.keep {w w' : World} {c : Option Addr} {n : Nat} {A : Nat → Option Addr} {L C : Nat → Nat} {f g : Nat → Nat → Int} (h : RowsV w c n A L C f g) (k : Chg nob w w') : RowsV w' c n A L C f g := by
  intro i hi
  obtain ⟨xb, xo, e, l, hc, hp⟩ := h i hi
  exact ⟨xb, xo, e, Nat.lt_of_lt_of_le l k.size, k.see hc, hp.keep k⟩
/-- n lists of N elements each. -/
def RowsE (w : World) (c : Option Addr) (n N : Nat) (t : Nat → Nat → El) : Prop :=
  ∀ i, i < n → ∃ (xb xo : Nat) (A : Option Addr) (C : Nat), c = some ⟨xb, xo, none⟩ ∧ xb < w.heap.size ∧ w.cell? ⟨xb, xo + i, none⟩ = some (.slice A N C) ∧ PairE w A N (t i)
theorem RowsE.keep {w w' : World} {c : Option Addr} {n N : Nat} {t : Nat → Nat → El} (h : RowsE w c n N t) (k : Chg nob w w') : RowsE w' c n N t := by
  intro i hi
  obtain ⟨xb, xo, A, C, e, l, hc, hp⟩ := h i hi
  exact ⟨xb, xo, A, C, e, Nat.lt_of_lt_of_le l k.size, k.see hc, PairE.keep hp k⟩
theorem RowsE.of {w : World} {c : Option Addr} {n N : Nat} {A : Nat → Option Addr} {L C : Nat → Nat} {f g : Nat → Nat → Int} (h : RowsV w c n A L C f g) (hL : ∀ i, i < n → L i = N) (ho : ∀ i, i < n → okP (f i) (g i) N = true) : RowsE w c n N (fun i => elF (f i) (g i)) := by
  intro i hi
  obtain ⟨xb, xo, e, l, hc, hp⟩ := h i hi
  rw [hL i hi] at hc hp
  exact ⟨xb, xo, A i, C i, e, l, hc, PairE.of hp (ho i hi)⟩
theorem RowsE.congr {w : World} {c : Option Addr} {n N : Nat} {t u : Nat → Nat → El} (h : RowsE w c n N t) (e : ∀ i, i < n → ∀ j, j < N → t i j = u i j) : RowsE w c n N u := by
  intro i hi
  obtain ⟨xb, xo, A, C, ec, l, hc, hp⟩ := h i hi
  exact ⟨xb, xo, A, C, ec, l, hc, PairV.congr hp (fun j hj => by unfold cA cB; rw [e i hi j hj]; exact ⟨rfl, rfl⟩)⟩
/-- j lists of H elements, list i at A i in a block of its own, not below B and other than g. -/
def TbsO (W : World) (B g j H : Nat) (A : Nat → Option Addr) (u : Nat → Nat → El) : Prop :=
  ∀ i, i < j → ∃ b : Nat, A i = some ⟨b, 0, none⟩ ∧ B ≤ b ∧ b ≠ g ∧ b < W.heap.size ∧ PairE W (A i) H (u i)
theorem TbsO.keep {W W' : World} {B g j H : Nat} {A : Nat → Option Addr} {u : Nat → Nat → El} (h : TbsO W B g j H A u) (k : Chg nob W W') : TbsO W' B g j H A u := by
  intro i hi
  obtain ⟨b, e, hb, hg, hl, hp⟩ := h i hi
  exact ⟨b, e, hb, hg, Nat.lt_of_lt_of_le hl k.size, PairE.keep hp k⟩
/-- The outer list has grown: in block g, or in a new one. -/
theorem TbsO.grown {W W' : World} {B g g' j H : Nat} {A : Nat → Option Addr} {u : Nat → Nat → El} (h : TbsO W B g j H A u) (hg : W.grownBy W' (some g)) (hat : g = g' ∨ g' = W.heap.size) : TbsO W' B g' j H A u := by
  intro i hi
  obtain ⟨b, e, hb, hne, hl, hp⟩ := h i hi
  have k : Chg (fun x => x = g) W W' := (Chg.refl _ W).grown hg (fun k e _ => by cases e; rfl)
  refine ⟨b, e, hb, ?_, Nat.lt_of_lt_of_le hl k.size, PairV.chg hp k (fun xb xo e2 _ e3 => ?_)⟩
  · rcases hat with rfl | rfl
    · exact hne
    · omega
  · rw [e] at e2
    cases e2
    exact hne e3
theorem TbsO.ext {W : World} {B g j H : Nat} {A : Nat → Option Addr} {u : Nat → Nat → El} (h : TbsO W B g j H A u) {b : Nat} (hb : B ≤ b) (hne : b ≠ g) (hl : b < W.heap.size) (hp : PairE W (some ⟨b, 0, none⟩) H (u j)) : TbsO W B g (j + 1) H (fun i => if i = j then some ⟨b, 0, none⟩ else A i) u := by
  intro i hi
  by_cases e : i = j
  · subst e
    exact ⟨b, by simp only [if_true], hb, hne, hl, by simp only [if_true]; exact hp⟩
  · obtain ⟨b', e1, r⟩ := h i (by omega)
    exact ⟨b', by simp only [e, if_false]; exact e1, by simp only [e, if_false]; exact r⟩
theorem rwExt (A : Nat → Option Addr) (H : Nat) (C : Nat → Nat) (j : Nat) (a : Option Addr) (c : Nat) : (List.range j).map (fun i => Value.slice (A i) H (C i)) ++ [.slice a H c] = (List.range (j + 1)).map (fun i => Value.slice ((fun i => if i = j then a else A i) i) H ((fun i => if i = j then c else C i) i)) := by
  rw [List.range_succ, List.map_append]
  congr 1
  · apply List.map_congr_left
    intro i hi
    have : i < j := by simpa using hi
    simp only [show ¬ i = j by omega, if_false]
  · simp
/-- Lists of lists in a block of the call's own, read. -/
theorem RowsE.of_owns {W : World} {B g n cap H : Nat} {T : TypeId} {A : Nat → Option Addr} {C : Nat → Nat} {u : Nat → Nat → El} (ho : W.ownsRow B T 1 (.slice (some ⟨g, 0, none⟩) n cap) n ((List.range n).map (fun i => Value.slice (A i) H (C i)))) {B' : Nat} (ht : TbsO W B' g n H A u) : RowsE W (some ⟨g, 0, none⟩) n H u := by
  intro i hi
  obtain ⟨b, e, _, _, _, hp⟩ := ht i hi
  have hc := ho.cells (g := g) rfl i (.slice (A i) H (C i)) (by rw [List.getElem?_map, List.getElem?_range hi]; rfl)
  rw [Go.WideShapes.add_plain] at hc
  exact ⟨g, 0, A i, C i, rfl, (ho.lt g rfl).2, hc, hp⟩

/-- As RowsE, all its blocks of one sort. -/
def RowsQ (Q : Nat → Prop) (w : World) (c : Option Addr) (n N : Nat) (t : Nat → Nat → El) : Prop :=
  ∀ i, i < n → ∃ (xb xo : Nat) (A : Option Addr) (C : Nat), c = some ⟨xb, xo, none⟩ ∧ xb < w.heap.size ∧ w.cell? ⟨xb, xo + i, none⟩ = some (.slice A N C) ∧ PairE w A N (t i) ∧ Q xb ∧ ∀ b o, A = some ⟨b, o, none⟩ → Q b
theorem RowsQ.chg {Q P : Nat → Prop} {w w' : World} {c : Option Addr} {n N : Nat} {t : Nat → Nat → El} (h : RowsQ Q w c n N t) (k : Chg P w w') (hq : ∀ b, Q b → ¬ P b) : RowsQ Q w' c n N t := by
  intro i hi
  obtain ⟨xb, xo, A, C, e, l, hc, hp, q, qa⟩ := h i hi
  exact ⟨xb, xo, A, C, e, Nat.lt_of_lt_of_le l k.size, by rw [k.cell (p := ⟨xb, xo + i, none⟩) l (hq xb q)]; exact hc, PairV.chg hp k (fun b o e _ => hq b (qa b o e)), q, qa⟩
theorem RowsQ.keep {Q : Nat → Prop} {w w' : World} {c : Option Addr} {n N : Nat} {t : Nat → Nat → El} (h : RowsQ Q w c n N t) (k : Chg nob w w') : RowsQ Q w' c n N t := h.chg k (fun _ _ x => x)
theorem RowsQ.mono {Q R : Nat → Prop} {w : World} {c : Option Addr} {n N : Nat} {t : Nat → Nat → El} (h : RowsQ Q w c n N t) (hq : ∀ b, Q b → R b) : RowsQ R w c n N t := by
  intro i hi
  obtain ⟨xb, xo, A, C, e, l, hc, hp, q, qa⟩ := h i hi
  exact ⟨xb, xo, A, C, e, l, hc, hp, hq _ q, fun b o e => hq _ (qa b o e)⟩
theorem RowsQ.of_owns {W : World} {B g n cap H : Nat} {T : TypeId} {A : Nat → Option Addr} {C : Nat → Nat} {u : Nat → Nat → El} (ho : W.ownsRow B T 1 (.slice (some ⟨g, 0, none⟩) n cap) n ((List.range n).map (fun i => Value.slice (A i) H (C i)))) (ht : TbsO W B g n H A u) : RowsQ (fun b => B ≤ b ∧ b < W.heap.size) W (some ⟨g, 0, none⟩) n H u := by
  intro i hi
  obtain ⟨b, e, hb, _, hl, hp⟩ := ht i hi
  have hc := ho.cells (g := g) rfl i (.slice (A i) H (C i)) (by rw [List.getElem?_map, List.getElem?_range hi]; rfl)
  rw [Go.WideShapes.add_plain] at hc
  refine ⟨g, 0, A i, C i, rfl, (ho.lt g rfl).2, hc, hp, ho.lt g rfl, fun b' o e' => ?_⟩
  rw [e] at e'
  cases e'
  exact ⟨hb, hl⟩
/-- Lists in blocks other than those that change. -/
theorem TbsO.chg {W W' : World} {P : Nat → Prop} {B g j H : Nat} {A : Nat → Option Addr} {u : Nat → Nat → El} (h : TbsO W B g j H A u) (k : Chg P W W') (hp : ∀ i b, i < j → A i = some ⟨b, 0, none⟩ → ¬ P b) : TbsO W' B g j H A u := by
  intro i hi
  obtain ⟨b, e, hb, hne, hl, hpr⟩ := h i hi
  refine ⟨b, e, hb, hne, Nat.lt_of_lt_of_le hl k.size, PairV.chg hpr k (fun xb xo e2 _ => ?_)⟩
  rw [e] at e2
  cases e2
  exact hp i b hi e

theorem infoRow : (Tryz.prog.info? 30).map (fun i => (i.zero, i.size, i.bytes)) = some (some (.slice none 0 0), 1, 24) := by kernel_rfl


end Go.Proofs.YtccgjbdjbgefiaaGreatDoor
