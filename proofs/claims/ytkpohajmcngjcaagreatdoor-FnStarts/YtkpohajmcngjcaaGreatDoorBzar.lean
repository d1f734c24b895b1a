/- Several texts in one: Rows of the greater field's elements, told by elements: words. No condition but those that each theorem states. · What the model's tables of points answer: contracts. Conditions: elements of the greater field, rows that can be read, points of at most six elements. · Elements in blocks of their own, slices of elements of a call's own: words. No condition but those that each theorem states. · What the model's matrix at two points answers: a contract. -/
import Derived.Test.YtkpohajmcngjcaaGreatDoorBzam
import Derived.Test.YtkpohajmcngjcaaGreatDoorBzae
import Derived.Test.YtkpohajmcngjcaaGreatDoorBzao
import Derived.Test.YtkpohajmcngjcaaGreatDoorBzan
import Derived.Test.YtkpohajmcngjcaaGreatDoorBzai
import Derived.Test.YtkpohajmcngjcaaGreatDoorBzaj
namespace Go.Proofs.YtkpohajmcngjcaaGreatDoor
open Go.ChangeShapes Go.WideShapes Go.ChangeAt Go.RowKit
set_option linter.unusedVariables false
set_option maxRecDepth 100000
set_option linter.unusedSimpArgs false

/-- The parts of elements. -/
def cA (t : Nat → El) (i : Nat) : Int := (t i).v.1
def cB (t : Nat → El) (i : Nat) : Int := (t i).v.2
/-- Elements of parts. -/
theorem red_eok {a b : Int} (h : eok a b = true) : Fld.Red (a, b) := ⟨fok_lo (eok_a h), fok_hi (eok_a h), fok_lo (eok_b h), fok_hi (eok_b h)⟩
def elP (a b : Int) : El := if h : eok a b = true then ⟨(a, b), red_eok h⟩ else El.zr
theorem elP_v {a b : Int} (h : eok a b = true) : (elP a b).v = (a, b) := by unfold elP; rw [dif_pos h]
def elF (f g : Nat → Int) (i : Nat) : El := elP (f i) (g i)
theorem eok_el (x : El) : eok x.v.1 x.v.2 = true := eok_mk (fok_mk x.lo1 x.hi1) (fok_mk x.lo2 x.hi2)
theorem okP_el (t : Nat → El) (n : Nat) : okP (cA t) (cB t) n = true := okP_of _ _ n (fun i _ => eok_el (t i))
theorem cA_el {f g : Nat → Int} {n i : Nat} (h : okP f g n = true) (hi : i < n) : f i = cA (elF f g) i ∧ g i = cB (elF f g) i := by
  have e := elP_v (okP_all f g n h i hi)
  exact ⟨by rw [cA, elF, e], by rw [cB, elF, e]⟩
/-- n elements that can be read behind c. -/
def PairE (w : World) (c : Option Addr) (n : Nat) (t : Nat → El) : Prop := PairV w c n (cA t) (cB t)
theorem PairE.keep {w w' : World} {c : Option Addr} {n : Nat} {t : Nat → El} (h : PairE w c n t) (k : Chg nob w w') : PairE w' c n t := PairV.keep h k
theorem PairE.of {w : World} {c : Option Addr} {n : Nat} {f g : Nat → Int} (h : PairV w c n f g) (ho : okP f g n = true) : PairE w c n (elF f g) := PairV.congr h (fun i hi => cA_el ho hi)
theorem PairE.at_ {w : World} {c : Option Addr} {n : Nat} {t : Nat → El} (h : PairE w c n t) {i : Nat} (hi : i < n) : ∃ xb xo : Nat, c = some ⟨xb, xo, none⟩ ∧ xb < w.heap.size ∧ w.cell? ⟨xb, xo + i * 2, none⟩ = some (.int .i64 (t i).v.1) ∧ w.cell? ⟨xb, xo + i * 2 + 1, none⟩ = some (.int .i64 (t i).v.2) := h i hi
theorem PairE.c0 {w : World} {xb xo n : Nat} {t : Nat → El} (h : PairE w (some ⟨xb, xo, none⟩) n t) {i : Nat} (hi : i < n) : w.cell? ⟨xb, xo + i * 2, none⟩ = some (.int .i64 (t i).v.1) := by
  obtain ⟨xb', xo', e, _, e0, _⟩ := h.at_ hi
  cases e
  exact e0
theorem PairE.c1 {w : World} {xb xo n : Nat} {t : Nat → El} (h : PairE w (some ⟨xb, xo, none⟩) n t) {i : Nat} (hi : i < n) : w.cell? ⟨xb, xo + i * 2 + 1, none⟩ = some (.int .i64 (t i).v.2) := by
  obtain ⟨xb', xo', e, _, _, e1⟩ := h.at_ hi
  cases e
  exact e1
/-- A row of n elements in block b. -/
def RowE (W : World) (b n : Nat) (t : Nat → El) : Prop := W.rowIs b 62 (n * 2) (pf (cA t) (cB t))
theorem RowE.keep {W W' : World} {b n : Nat} {t : Nat → El} (h : RowE W b n t) (k : Chg nob W W') : RowE W' b n t := rowIs_keep h k
theorem RowE.lt {W : World} {b n : Nat} {t : Nat → El} (h : RowE W b n t) : b < W.heap.size := World.rowIs.lt h
theorem RowE.c0 {W : World} {b n : Nat} {t : Nat → El} (h : RowE W b n t) {i : Nat} (hi : i < n) : W.cell? ⟨b, i * 2, none⟩ = some (.int .i64 (t i).v.1) := by
  rw [World.rowIs.cell h (by omega), pf_even]; rfl
theorem RowE.c1 {W : World} {b n : Nat} {t : Nat → El} (h : RowE W b n t) {i : Nat} (hi : i < n) : W.cell? ⟨b, i * 2 + 1, none⟩ = some (.int .i64 (t i).v.2) := by
  rw [World.rowIs.cell h (by omega), pf_odd]; rfl
theorem RowE.congr {W : World} {b n : Nat} {t u : Nat → El} (h : RowE W b n t) (e : ∀ i, i < n → t i = u i) : RowE W b n u :=
  World.rowIs.congr h (fun i hi => by unfold pf cA cB; rw [e (i / 2) (by omega)])
theorem RowE.pairs {W : World} {b n : Nat} {t : Nat → El} (h : RowE W b n t) : PairE W (some ⟨b, 0, none⟩) n t := PairV.of_row h (Nat.le_refl _)
theorem RowE.own {W : World} {B b n : Nat} {t : Nat → El} (h : RowE W b n t) (hB : B ≤ b) : OwnE W B (some ⟨b, 0, none⟩) n (cA t) (cB t) := OwnE.of_row h hB
theorem RowE.other {W : World} {b g n : Nat} {t : Nat → El} (h : RowE W b n t) (hne : b ≠ g) (o o' : Nat) (u v : Value) : RowE ((W.setCell ⟨g, o, none⟩ u).setCell ⟨g, o', none⟩ v) b n t :=
  World.rowIs.setOther (a := ⟨g, o', none⟩) (World.rowIs.setOther (a := ⟨g, o, none⟩) h hne u) hne v
/-- One element of a list put anew. -/
def upE (t : Nat → El) (k : Nat) (x : El) (i : Nat) : El := if i = k then x else t i
theorem RowE.set {W : World} {b n : Nat} {t : Nat → El} (h : RowE W b n t) (k : Nat) (x : El) : RowE ((W.setCell ⟨b, k * 2, none⟩ (.int .i64 x.v.1)).setCell ⟨b, k * 2 + 1, none⟩ (.int .i64 x.v.2)) b n (upE t k x) :=
  World.rowIs.congr (World.rowIs.set (World.rowIs.set h (k * 2) _) (k * 2 + 1) _) (fun i hi => by
    by_cases e1 : i = k * 2 + 1
    · subst e1; simp [pf_odd, cB, upE]
    · by_cases e2 : i = k * 2
      · subst e2; simp [pf_even, cA, upE]
      · have e3 : ¬ i / 2 = k := by omega
        simp [e1, e2, pf, cA, cB, upE, e3])
theorem look_two {W : World} {g b o : Nat} {v : Value} (hne : b ≠ g) (c : W.cell? ⟨b, o, none⟩ = some v) (o1 o2 : Nat) (u u' : Value) : ((W.setCell ⟨g, o1, none⟩ u).setCell ⟨g, o2, none⟩ u').cell? ⟨b, o, none⟩ = some v := by
  rw [World.cell?_setCell_far _ _ _ _ (fun h => hne h.symm), World.cell?_setCell_far _ _ _ _ (fun h => hne h.symm), c]
theorem chg2_at {P : Nat → Prop} {w W : World} (h : Chg P w W) (g : Nat) (hg : g < w.heap.size → P g) (o o' : Nat) (u v : Value) : Chg P w ((W.setCell ⟨g, o, none⟩ u).setCell ⟨g, o', none⟩ v) :=
  (h.setCell (p := ⟨g, o, none⟩) hg u).setCell (p := ⟨g, o', none⟩) hg v

/- What sums, differences and products of elements come to, by the model. -/

theorem ad_el (x y : El) (w : World) : Calls Tryz.prog 61 #[.agg #[.int .i64 x.v.1, .int .i64 x.v.2], .agg #[.int .i64 y.v.1, .int .i64 y.v.2]] w fun e w' => e = .returned (.agg #[.int .i64 (El.ad x y).v.1, .int .i64 (El.ad x y).v.2]) ∧ Chg nob w w' :=
  plus_any _ _ _ _ w x.lo1 x.hi1 x.lo2 x.hi2 y.lo1 y.hi1 y.lo2 y.hi2

theorem sb_el (x y : El) (w : World) : Calls Tryz.prog 98 #[.agg #[.int .i64 x.v.1, .int .i64 x.v.2], .agg #[.int .i64 y.v.1, .int .i64 y.v.2]] w fun e w' => e = .returned (.agg #[.int .i64 (El.sb x y).v.1, .int .i64 (El.sb x y).v.2]) ∧ Chg nob w w' :=
  minus_any _ _ _ _ w x.lo1 x.hi1 x.lo2 x.hi2 y.lo1 y.hi1 y.lo2 y.hi2

theorem ml_el (x y : El) (w : World) : Calls Tryz.prog 60 #[.agg #[.int .i64 x.v.1, .int .i64 x.v.2], .agg #[.int .i64 y.v.1, .int .i64 y.v.2]] w fun e w' => e = .returned (.agg #[.int .i64 (El.ml x y).v.1, .int .i64 (El.ml x y).v.2]) ∧ Chg nob w w' :=
  times_any _ _ _ _ w x.lo1 x.hi1 x.lo2 x.hi2 y.lo1 y.hi1 y.lo2 y.hi2

end Go.Proofs.YtkpohajmcngjcaaGreatDoor

namespace Go.Proofs.YtkpohajmcngjcaaGreatDoor
open Go.ChangeShapes Go.WideShapes Go.ChangeAt Go.RowKit
set_option linter.unusedVariables false
set_option maxRecDepth 100000
set_option linter.unusedSimpArgs false

/-- A table of a call's own. -/
def TbAns (w : World) (n : Nat) (t : Nat → El) (e : Ending) (w' : World) : Prop :=
  ∃ b : Nat, e = .returned (.slice (some ⟨b, 0, none⟩) n n) ∧ w.heap.size ≤ b ∧ RowE w' b n t ∧ Chg nob w w'


end Go.Proofs.YtkpohajmcngjcaaGreatDoor

namespace Go.Proofs.YtkpohajmcngjcaaGreatDoor
open Go.ChangeShapes Go.WideShapes Go.ChangeAt Go.RowKit
set_option linter.unusedVariables false
set_option maxRecDepth 100000
set_option linter.unusedSimpArgs false

/-- No element. -/
def zE (_ : Nat) : El := El.zr
/-- Elements copied into a table. -/
def fitE (t : Nat → El) (n : Nat) (u : Nat → El) (i : Nat) : El := if i < n then t i else u i
/-- An element in a block of its own. -/
def ElB (W : World) (b : Nat) (x : El) : Prop := W.rowIs b 62 2 (pv2 (.int .i64 x.v.1) (.int .i64 x.v.2))
theorem ElB.new (W : World) (x : El) : ElB (W.alloc (.cells #[.int .i64 x.v.1, .int .i64 x.v.2] 62)) W.heap.size x := row2_new W _ _ _
theorem ElB.zero (W : World) : ElB (W.alloc (.cells #[.int .i64 0, .int .i64 0] 62)) W.heap.size El.zr := row2_new W _ _ _
theorem ElB.keep {W W' : World} {b : Nat} {x : El} (h : ElB W b x) (k : Chg nob W W') : ElB W' b x := rowIs_keep h k
theorem ElB.chg {P : Nat → Prop} {W W' : World} {b : Nat} {x : El} (h : ElB W b x) (k : Chg P W W') (hp : ¬ P b) : ElB W' b x := rowIs_chg h k hp
theorem ElB.lt {W : World} {b : Nat} {x : El} (h : ElB W b x) : b < W.heap.size := World.rowIs.lt h
theorem ElB.c0 {W : World} {b : Nat} {x : El} (h : ElB W b x) : W.cell? ⟨b, 0, none⟩ = some (.int .i64 x.v.1) := row2_c0 h
theorem ElB.c1 {W : World} {b : Nat} {x : El} (h : ElB W b x) : W.cell? ⟨b, 1, none⟩ = some (.int .i64 x.v.2) := row2_c1 h
theorem ElB.fz {W : World} {b : Nat} {x : El} (h : ElB W b x) (o : Nat) : W.frozen? ⟨b, o, none⟩ = false := World.rowIs.frozen h o
theorem ElB.set {W : World} {b : Nat} {x : El} (h : ElB W b x) (y : El) : ElB ((W.setCell ⟨b, 0, none⟩ (.int .i64 y.v.1)).setCell ⟨b, 1, none⟩ (.int .i64 y.v.2)) b y := row2_set h _ _
theorem ElB.other {W : World} {b g : Nat} {x : El} (h : ElB W b x) (hne : b ≠ g) (o o' : Nat) (u v : Value) : ElB ((W.setCell ⟨g, o, none⟩ u).setCell ⟨g, o', none⟩ v) b x :=
  World.rowIs.setOther (a := ⟨g, o', none⟩) (World.rowIs.setOther (a := ⟨g, o, none⟩) h hne u) hne v

/-- A slice of elements of a call's own, or none. -/
def SlAns (w : World) (n : Nat) (t : Nat → El) (e : Ending) (w' : World) : Prop :=
  ∃ (c : Option Addr) (cap : Nat), e = .returned (.slice c n cap) ∧ n ≤ cap ∧ (cap : Int) ≤ 9223372036854775807 ∧ OwnE w' w.heap.size c n (cA t) (cB t) ∧ Chg nob w w'

end Go.Proofs.YtkpohajmcngjcaaGreatDoor

namespace Go.Proofs.YtkpohajmcngjcaaGreatDoor
open Go.ChangeShapes Go.WideShapes Go.ChangeAt Go.RowKit
set_option linter.unusedVariables false
set_option maxRecDepth 100000
set_option linter.unusedSimpArgs false


end Go.Proofs.YtkpohajmcngjcaaGreatDoor
