/- Several texts in one: Plain facts: the greater field's elements as a ring, sums, and tables over it as polynomials of at most first powers. No program is named here; no condition but those that each theorem states. · Rows of the greater field's elements, told by elements: words. No condition but those that each theorem states. -/
import Derived.Test.YtfgnhaoonpknlaaBzab
import Derived.Test.YtfgnhaoonpknlaaBzak
import Derived.Test.YtfgnhaoonpknlaaBzas
namespace Go.Proofs.Ytfgnhaoonpknlaa
set_option linter.unusedVariables false
set_option linter.unusedSimpArgs false

/-- An element of the greater field. -/
structure El where
  v : Int × Int
  h : Fld.Red v
theorem El.eq {x y : El} (h : x.v = y.v) : x = y := by
  cases x
  cases y
  cases h
  rfl
theorem El.eq2 {x y : El} (h1 : x.v.1 = y.v.1) (h2 : x.v.2 = y.v.2) : x = y := El.eq (Prod.ext h1 h2)
namespace El
def zr : El := ⟨(0, 0), by unfold Fld.Red; omega⟩
def on : El := ⟨(1, 0), by unfold Fld.Red; omega⟩
def ad (x y : El) : El := ⟨((x.v.1 + y.v.1) % 2130706433, (x.v.2 + y.v.2) % 2130706433), by unfold Fld.Red; dsimp only; omega⟩
def sb (x y : El) : El := ⟨((x.v.1 + 2130706433 - y.v.1) % 2130706433, (x.v.2 + 2130706433 - y.v.2) % 2130706433), by unfold Fld.Red; dsimp only; omega⟩
def ml (x y : El) : El := ⟨Fld.mu x.v y.v, Fld.mu_red _ _⟩
theorem lo1 (x : El) : 0 ≤ x.v.1 := x.h.1
theorem hi1 (x : El) : x.v.1 < 2130706433 := x.h.2.1
theorem lo2 (x : El) : 0 ≤ x.v.2 := x.h.2.2.1
theorem hi2 (x : El) : x.v.2 < 2130706433 := x.h.2.2.2

theorem ad_comm (x y : El) : ad x y = ad y x := El.eq2 (by simp only [ad]; omega) (by simp only [ad]; omega)
theorem ad_assoc (x y z : El) : ad (ad x y) z = ad x (ad y z) := El.eq2 (by simp only [ad]; omega) (by simp only [ad]; omega)
theorem ad_zr (x : El) : ad x zr = x := El.eq2 (by have := x.h; unfold Fld.Red at this; simp only [ad, zr]; omega) (by have := x.h; unfold Fld.Red at this; simp only [ad, zr]; omega)
theorem zr_ad (x : El) : ad zr x = x := by rw [ad_comm, ad_zr]
theorem ad_left (x y z : El) : ad x (ad y z) = ad y (ad x z) := by rw [← ad_assoc, ad_comm x y, ad_assoc]
theorem ad_ad (a b c d : El) : ad (ad a b) (ad c d) = ad (ad a c) (ad b d) := by rw [ad_assoc, ad_left b c d, ← ad_assoc]
theorem sb_ad (x y : El) : ad (sb x y) y = x := El.eq2 (by have := x.h; unfold Fld.Red at this; simp only [sb, ad]; omega) (by have := x.h; unfold Fld.Red at this; simp only [sb, ad]; omega)
theorem ad_sb (x y : El) : sb (ad x y) y = x := El.eq2 (by have := x.h; unfold Fld.Red at this; simp only [sb, ad]; omega) (by have := x.h; unfold Fld.Red at this; simp only [sb, ad]; omega)
theorem ad_sb' (x y : El) : ad x (sb y x) = y := by rw [ad_comm, sb_ad]
/-- A difference is told by the sum. -/
theorem sb_of {x y z : El} (h : ad z y = x) : sb x y = z := by rw [← h, ad_sb]

theorem ml_comm (x y : El) : ml x y = ml y x := El.eq (Fld.mu_comm _ _)
theorem ml_assoc (x y z : El) : ml (ml x y) z = ml x (ml y z) := El.eq (Fld.mu_assoc _ _ _)
theorem ml_on (x : El) : ml x on = x := El.eq (Fld.mu_one x.h)
theorem on_ml (x : El) : ml on x = x := by rw [ml_comm, ml_on]
theorem ml_zr (x : El) : ml x zr = zr := El.eq (by simp [ml, zr, Fld.mu, Fld.mA, Fld.mB])
theorem zr_ml (x : El) : ml zr x = zr := by rw [ml_comm, ml_zr]
theorem ad_ml (x y z : El) : ml (ad x y) z = ad (ml x z) (ml y z) := El.eq2 (Fld.mA_dist _ _ _ _ _ _) (Fld.mB_dist _ _ _ _ _ _)
theorem ml_ad (x y z : El) : ml x (ad y z) = ad (ml x y) (ml x z) := by rw [ml_comm, ad_ml, ml_comm y, ml_comm z]
theorem sb_ml (x y z : El) : ml (sb x y) z = sb (ml x z) (ml y z) := (sb_of (by rw [← ad_ml, sb_ad])).symm
theorem ml_left (x y z : El) : ml x (ml y z) = ml y (ml x z) := by rw [← ml_assoc, ml_comm x y, ml_assoc]
/-- Two parts of a thing are it. -/
theorem parts (s r : El) : ad (ml s (sb on r)) (ml s r) = s := by rw [← ml_ad, sb_ad, ml_on]

/-- A sum of the first n. -/
def sm (f : Nat → El) : Nat → El
  | 0 => zr
  | n + 1 => ad (sm f n) (f n)

end El

end Go.Proofs.Ytfgnhaoonpknlaa

namespace Go.Proofs.Ytfgnhaoonpknlaa
open Go.ChangeShapes Go.WideShapes Go.ChangeAt Go.RowKit
set_option linter.unusedVariables false
set_option maxRecDepth 100000
set_option linter.unusedSimpArgs false

/-- The parts of elements. -/
def cA (t : Nat → El) (i : Nat) : Int := (t i).v.1
def cB (t : Nat → El) (i : Nat) : Int := (t i).v.2
/-- Elements of parts. -/
theorem red_eok {a b : Int} (h : eok a b = true) : Fld.Red (a, b) := ⟨fok_lo (eok_a h), fok_hi (eok_a h), fok_lo (eok_b h), fok_hi (eok_b h)⟩
def elP (a b : Int) : El := if h : eok a b = true then ⟨(a, b), red_eok h⟩ else El.zr
theorem elP_v {a b : Int} (h : eok a b = true) : (elP a b).v = (a, b) := by unfold elP; rw [dif_pos h]
def elF (f g : Nat → Int) (i : Nat) : El := elP (f i) (g i)
theorem cA_el {f g : Nat → Int} {n i : Nat} (h : okP f g n = true) (hi : i < n) : f i = cA (elF f g) i ∧ g i = cB (elF f g) i := by
  have e := elP_v (okP_all f g n h i hi)
  exact ⟨by rw [cA, elF, e], by rw [cB, elF, e]⟩
/-- n elements that can be read behind c. -/
def PairE (w : World) (c : Option Addr) (n : Nat) (t : Nat → El) : Prop := PairV w c n (cA t) (cB t)
theorem PairE.keep {w w' : World} {c : Option Addr} {n : Nat} {t : Nat → El} (h : PairE w c n t) (k : Chg nob w w') : PairE w' c n t := PairV.keep h k
theorem PairE.of {w : World} {c : Option Addr} {n : Nat} {f g : Nat → Int} (h : PairV w c n f g) (ho : okP f g n = true) : PairE w c n (elF f g) := PairV.congr h (fun i hi => cA_el ho hi)
theorem PairE.at_ {w : World} {c : Option Addr} {n : Nat} {t : Nat → El} (h : PairE w c n t) {i : Nat} (hi : i < n) : ∃ xb xo : Nat, c = some ⟨xb, xo, none⟩ ∧ xb < w.heap.size ∧ w.cell? ⟨xb, xo + i * 2, none⟩ = some (.int .i64 (t i).v.1) ∧ w.cell? ⟨xb, xo + i * 2 + 1, none⟩ = some (.int .i64 (t i).v.2) := h i hi
theorem PairE.c0 {w : World} {xb xo n : Nat} {t : Nat → El} (h : PairE w (some ⟨xb, xo, none⟩) n t) {i : Nat} (hi : i < n) : w.cell? ⟨xb, xo + i * 2, none⟩ = some (.int .i64 (t i).v.1) := by
  obtain ⟨xb', xo', e, _, e0, _⟩ := h.at_ hi
  cases e
  exact e0
theorem PairE.c1 {w : World} {xb xo n : Nat} {t : Nat → El} (h : PairE w (some ⟨xb, xo, none⟩) n t) {i : Nat} (hi : i < n) : w.cell? ⟨xb, xo + i * 2 + 1, none⟩ = some (.int .i64 (t i).v.2) := by
  obtain ⟨xb', xo', e, _, _, e1⟩ := h.at_ hi
  cases e
  exact e1
/-- A row of n elements in block b. -/
def RowE (W : World) (b n : Nat) (t : Nat → El) : Prop := W.rowIs b 28 (n * 2) (pf (cA t) (cB t))
theorem RowE.keep {W W' : World} {b n : Nat} {t : Nat → El} (h : RowE W b n t) (k : Chg nob W W') : RowE W' b n t := rowIs_keep h k
theorem RowE.lt {W : World} {b n : Nat} {t : Nat → El} (h : RowE W b n t) : b < W.heap.size := World.rowIs.lt h
theorem RowE.c0 {W : World} {b n : Nat} {t : Nat → El} (h : RowE W b n t) {i : Nat} (hi : i < n) : W.cell? ⟨b, i * 2, none⟩ = some (.int .i64 (t i).v.1) := by
  rw [World.rowIs.cell h (by omega), pf_even]; rfl
theorem RowE.c1 {W : World} {b n : Nat} {t : Nat → El} (h : RowE W b n t) {i : Nat} (hi : i < n) : W.cell? ⟨b, i * 2 + 1, none⟩ = some (.int .i64 (t i).v.2) := by
  rw [World.rowIs.cell h (by omega), pf_odd]; rfl
theorem RowE.congr {W : World} {b n : Nat} {t u : Nat → El} (h : RowE W b n t) (e : ∀ i, i < n → t i = u i) : RowE W b n u :=
  World.rowIs.congr h (fun i hi => by unfold pf cA cB; rw [e (i / 2) (by omega)])
theorem RowE.pairs {W : World} {b n : Nat} {t : Nat → El} (h : RowE W b n t) : PairE W (some ⟨b, 0, none⟩) n t := PairV.of_row h (Nat.le_refl _)
theorem RowE.own {W : World} {B b n : Nat} {t : Nat → El} (h : RowE W b n t) (hB : B ≤ b) : OwnE W B (some ⟨b, 0, none⟩) n (cA t) (cB t) := OwnE.of_row h hB
theorem RowE.other {W : World} {b g n : Nat} {t : Nat → El} (h : RowE W b n t) (hne : b ≠ g) (o o' : Nat) (u v : Value) : RowE ((W.setCell ⟨g, o, none⟩ u).setCell ⟨g, o', none⟩ v) b n t :=
  World.rowIs.setOther (a := ⟨g, o', none⟩) (World.rowIs.setOther (a := ⟨g, o, none⟩) h hne u) hne v
/-- One element of a list put anew. -/
def upE (t : Nat → El) (k : Nat) (x : El) (i : Nat) : El := if i = k then x else t i
theorem RowE.set {W : World} {b n : Nat} {t : Nat → El} (h : RowE W b n t) (k : Nat) (x : El) : RowE ((W.setCell ⟨b, k * 2, none⟩ (.int .i64 x.v.1)).setCell ⟨b, k * 2 + 1, none⟩ (.int .i64 x.v.2)) b n (upE t k x) :=
  World.rowIs.congr (World.rowIs.set (World.rowIs.set h (k * 2) _) (k * 2 + 1) _) (fun i hi => by
    by_cases e1 : i = k * 2 + 1
    · subst e1; simp [pf_odd, cB, upE]
    · by_cases e2 : i = k * 2
      · subst e2; simp [pf_even, cA, upE]
      · have e3 : ¬ i / 2 = k := by omega
        simp [e1, e2, pf, cA, cB, upE, e3])
theorem chg2_at {P : Nat → Prop} {w W : World} (h : Chg P w W) (g : Nat) (hg : g < w.heap.size → P g) (o o' : Nat) (u v : Value) : Chg P w ((W.setCell ⟨g, o, none⟩ u).setCell ⟨g, o', none⟩ v) :=
  (h.setCell (p := ⟨g, o, none⟩) hg u).setCell (p := ⟨g, o', none⟩) hg v

/- What sums, differences and products of elements come to, by the model. -/

theorem sb_el (x y : El) (w : World) : Calls Try.prog 69 #[.agg #[.int .i64 x.v.1, .int .i64 x.v.2], .agg #[.int .i64 y.v.1, .int .i64 y.v.2]] w fun e w' => e = .returned (.agg #[.int .i64 (El.sb x y).v.1, .int .i64 (El.sb x y).v.2]) ∧ Chg nob w w' :=
  minus_any _ _ _ _ w x.lo1 x.hi1 x.lo2 x.hi2 y.lo1 y.hi1 y.lo2 y.hi2

theorem ml_el (x y : El) (w : World) : Calls Try.prog 68 #[.agg #[.int .i64 x.v.1, .int .i64 x.v.2], .agg #[.int .i64 y.v.1, .int .i64 y.v.2]] w fun e w' => e = .returned (.agg #[.int .i64 (El.ml x y).v.1, .int .i64 (El.ml x y).v.2]) ∧ Chg nob w w' :=
  times_any _ _ _ _ w x.lo1 x.hi1 x.lo2 x.hi2 y.lo1 y.hi1 y.lo2 y.hi2

end Go.Proofs.Ytfgnhaoonpknlaa
