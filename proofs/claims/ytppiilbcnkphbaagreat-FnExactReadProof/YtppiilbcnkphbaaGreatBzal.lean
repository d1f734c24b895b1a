/- Several texts in one: Plain facts: the greater field's elements as a ring, sums, and tables over it as polynomials of at most first powers. No program is named here; no condition but those that each theorem states. · Steps of a region that draws its order, taken by hand: laws. No program is named here. · Rows of the greater field's elements, told by elements: words. No condition but those that each theorem states. · Regions that draw their order and end in a store into a cell that they read: laws. No program is named here; no condition but those that each theorem states. -/
import Derived.Test.YtppiilbcnkphbaaGreatBzaa
import Derived.Test.YtppiilbcnkphbaaGreatBzab
import Derived.Deep.RegionHeld
import Derived.Test.YtppiilbcnkphbaaGreatBzaf
namespace Go.Proofs.YtppiilbcnkphbaaGreat
set_option linter.unusedVariables false
set_option linter.unusedSimpArgs false

/-- An element of the greater field. -/
structure El where
  v : Int × Int
  h : Fld.Red v
theorem El.eq {x y : El} (h : x.v = y.v) : x = y := by
  cases x
  cases y
  cases h
  rfl
theorem El.eq2 {x y : El} (h1 : x.v.1 = y.v.1) (h2 : x.v.2 = y.v.2) : x = y := El.eq (Prod.ext h1 h2)
namespace El
def zr : El := ⟨(0, 0), by unfold Fld.Red; omega⟩
def on : El := ⟨(1, 0), by unfold Fld.Red; omega⟩
def ad (x y : El) : El := ⟨((x.v.1 + y.v.1) % 2130706433, (x.v.2 + y.v.2) % 2130706433), by unfold Fld.Red; dsimp only; omega⟩
def sb (x y : El) : El := ⟨((x.v.1 + 2130706433 - y.v.1) % 2130706433, (x.v.2 + 2130706433 - y.v.2) % 2130706433), by unfold Fld.Red; dsimp only; omega⟩
def ml (x y : El) : El := ⟨Fld.mu x.v y.v, Fld.mu_red _ _⟩
theorem lo1 (x : El) : 0 ≤ x.v.1 := x.h.1
theorem hi1 (x : El) : x.v.1 < 2130706433 := x.h.2.1
theorem lo2 (x : El) : 0 ≤ x.v.2 := x.h.2.2.1
theorem hi2 (x : El) : x.v.2 < 2130706433 := x.h.2.2.2
theorem on_zr : on ≠ zr := fun h => by
  have := congrArg (fun x : El => x.v.1) h
  simp [on, zr] at this

theorem ad_comm (x y : El) : ad x y = ad y x := El.eq2 (by simp only [ad]; omega) (by simp only [ad]; omega)
theorem ad_assoc (x y z : El) : ad (ad x y) z = ad x (ad y z) := El.eq2 (by simp only [ad]; omega) (by simp only [ad]; omega)
theorem ad_zr (x : El) : ad x zr = x := El.eq2 (by have := x.h; unfold Fld.Red at this; simp only [ad, zr]; omega) (by have := x.h; unfold Fld.Red at this; simp only [ad, zr]; omega)
theorem zr_ad (x : El) : ad zr x = x := by rw [ad_comm, ad_zr]
theorem ad_left (x y z : El) : ad x (ad y z) = ad y (ad x z) := by rw [← ad_assoc, ad_comm x y, ad_assoc]
theorem ad_ad (a b c d : El) : ad (ad a b) (ad c d) = ad (ad a c) (ad b d) := by rw [ad_assoc, ad_left b c d, ← ad_assoc]
theorem sb_ad (x y : El) : ad (sb x y) y = x := El.eq2 (by have := x.h; unfold Fld.Red at this; simp only [sb, ad]; omega) (by have := x.h; unfold Fld.Red at this; simp only [sb, ad]; omega)
theorem ad_sb (x y : El) : sb (ad x y) y = x := El.eq2 (by have := x.h; unfold Fld.Red at this; simp only [sb, ad]; omega) (by have := x.h; unfold Fld.Red at this; simp only [sb, ad]; omega)
theorem ad_sb' (x y : El) : ad x (sb y x) = y := by rw [ad_comm, sb_ad]
/-- A difference is told by the sum. -/
theorem sb_of {x y z : El} (h : ad z y = x) : sb x y = z := by rw [← h, ad_sb]

theorem ml_comm (x y : El) : ml x y = ml y x := El.eq (Fld.mu_comm _ _)
theorem ml_assoc (x y z : El) : ml (ml x y) z = ml x (ml y z) := El.eq (Fld.mu_assoc _ _ _)
theorem ml_on (x : El) : ml x on = x := El.eq (Fld.mu_one x.h)
theorem on_ml (x : El) : ml on x = x := by rw [ml_comm, ml_on]
theorem ml_zr (x : El) : ml x zr = zr := El.eq (by simp [ml, zr, Fld.mu, Fld.mA, Fld.mB])
theorem zr_ml (x : El) : ml zr x = zr := by rw [ml_comm, ml_zr]
theorem ad_ml (x y z : El) : ml (ad x y) z = ad (ml x z) (ml y z) := El.eq2 (Fld.mA_dist _ _ _ _ _ _) (Fld.mB_dist _ _ _ _ _ _)
theorem ml_ad (x y z : El) : ml x (ad y z) = ad (ml x y) (ml x z) := by rw [ml_comm, ad_ml, ml_comm y, ml_comm z]
theorem sb_ml (x y z : El) : ml (sb x y) z = sb (ml x z) (ml y z) := (sb_of (by rw [← ad_ml, sb_ad])).symm
theorem ml_left (x y z : El) : ml x (ml y z) = ml y (ml x z) := by rw [← ml_assoc, ml_comm x y, ml_assoc]
/-- Two parts of a thing are it. -/
theorem parts (s r : El) : ad (ml s (sb on r)) (ml s r) = s := by rw [← ml_ad, sb_ad, ml_on]

/-- A sum of the first n. -/
def sm (f : Nat → El) : Nat → El
  | 0 => zr
  | n + 1 => ad (sm f n) (f n)

end El

end Go.Proofs.YtppiilbcnkphbaaGreat

namespace Go.Proofs.YtppiilbcnkphbaaGreat
open Go.RowKit
set_option linter.unusedVariables false

section
variable {P : Program} {ops : Array Oper} {o : Oper} {a : Act} {w : World} {K : Act → World → Prop} {Q : Exit → Act → World → Prop} {E : Prop}
/-- The same with any arguments. -/
theorem stepL_callN (f : FuncId) (xs : Array Operand) (ats : Array TypeId) (hop : o.op = .call { callee := .value (.func f), args := xs, argTypes := ats }) (hw : Region.wanted o (yielded ops a.tmps) = true) (args : Array Value) (hargs : xs.map a.eval = args) (hcf : (callFunc f args).run P w = .ok (.enter f args) w) {R : Ending → World → Prop} (h : Calls P f args w R) (hR : ∀ e W, R e W → ∃ v, e = .returned v ∧ K (a.put o.dst v) W) :
    if Region.wanted o (yielded ops a.tmps) = true then Oper.wp P o a w K Q else E := by
  rw [if_pos hw]
  unfold Oper.wp
  have e1 : execOp a.eval o = callFunc f (#[] ++ xs.map a.eval ++ #[]) := by
    obtain ⟨dst', op, ty, pos, after, guard⟩ := o
    simp only at hop
    subst hop
    rfl
  rw [e1, show (#[] ++ xs.map a.eval ++ #[]) = args by rw [hargs]; simp, hcf, Oper.upon_enter]
  exact h.mono (fun e W r => by
    obtain ⟨v, rfl, k⟩ := hR e W r
    exact k)
end
theorem run_go {P : Program} {f : FuncId} {fn : Func} (hf : P.funcs[f]? = some fn) (hb : fn.body.isNone = false) (hn : (fn.name == "runtime.NumGoroutine") = false) (args : Array Value) (w : World) : (callFunc f args).run P w = .ok (.enter f args) w := by
  have hb' : ¬ fn.body = none := fun h => by rw [h] at hb; cases hb
  have hn' : ¬ fn.name = "runtime.NumGoroutine" := fun h => by rw [h] at hn; simp at hn
  simp [callFunc, hf, Result.andThen]
  rw [if_neg hn', if_neg hb']

end Go.Proofs.YtppiilbcnkphbaaGreat

namespace Go.Proofs.YtppiilbcnkphbaaGreat
open Go.ChangeShapes Go.WideShapes Go.ChangeAt Go.RowKit
set_option linter.unusedVariables false
set_option maxRecDepth 100000
set_option linter.unusedSimpArgs false

/-- The parts of elements. -/
def cA (t : Nat → El) (i : Nat) : Int := (t i).v.1
def cB (t : Nat → El) (i : Nat) : Int := (t i).v.2
/-- Elements of parts. -/
theorem red_eok {a b : Int} (h : eok a b = true) : Fld.Red (a, b) := ⟨fok_lo (eok_a h), fok_hi (eok_a h), fok_lo (eok_b h), fok_hi (eok_b h)⟩
def elP (a b : Int) : El := if h : eok a b = true then ⟨(a, b), red_eok h⟩ else El.zr
theorem elP_v {a b : Int} (h : eok a b = true) : (elP a b).v = (a, b) := by unfold elP; rw [dif_pos h]
def elF (f g : Nat → Int) (i : Nat) : El := elP (f i) (g i)
theorem cA_el {f g : Nat → Int} {n i : Nat} (h : okP f g n = true) (hi : i < n) : f i = cA (elF f g) i ∧ g i = cB (elF f g) i := by
  have e := elP_v (okP_all f g n h i hi)
  exact ⟨by rw [cA, elF, e], by rw [cB, elF, e]⟩
/-- n elements that can be read behind c. -/
def PairE (w : World) (c : Option Addr) (n : Nat) (t : Nat → El) : Prop := PairV w c n (cA t) (cB t)
theorem PairE.keep {w w' : World} {c : Option Addr} {n : Nat} {t : Nat → El} (h : PairE w c n t) (k : Chg nob w w') : PairE w' c n t := PairV.keep h k
theorem PairE.of {w : World} {c : Option Addr} {n : Nat} {f g : Nat → Int} (h : PairV w c n f g) (ho : okP f g n = true) : PairE w c n (elF f g) := PairV.congr h (fun i hi => cA_el ho hi)
theorem PairE.at_ {w : World} {c : Option Addr} {n : Nat} {t : Nat → El} (h : PairE w c n t) {i : Nat} (hi : i < n) : ∃ xb xo : Nat, c = some ⟨xb, xo, none⟩ ∧ xb < w.heap.size ∧ w.cell? ⟨xb, xo + i * 2, none⟩ = some (.int .i64 (t i).v.1) ∧ w.cell? ⟨xb, xo + i * 2 + 1, none⟩ = some (.int .i64 (t i).v.2) := h i hi
theorem PairE.c0 {w : World} {xb xo n : Nat} {t : Nat → El} (h : PairE w (some ⟨xb, xo, none⟩) n t) {i : Nat} (hi : i < n) : w.cell? ⟨xb, xo + i * 2, none⟩ = some (.int .i64 (t i).v.1) := by
  obtain ⟨xb', xo', e, _, e0, _⟩ := h.at_ hi
  cases e
  exact e0
theorem PairE.c1 {w : World} {xb xo n : Nat} {t : Nat → El} (h : PairE w (some ⟨xb, xo, none⟩) n t) {i : Nat} (hi : i < n) : w.cell? ⟨xb, xo + i * 2 + 1, none⟩ = some (.int .i64 (t i).v.2) := by
  obtain ⟨xb', xo', e, _, _, e1⟩ := h.at_ hi
  cases e
  exact e1
/-- A row of n elements in block b. -/
def RowE (W : World) (b n : Nat) (t : Nat → El) : Prop := W.rowIs b 31 (n * 2) (pf (cA t) (cB t))
theorem RowE.keep {W W' : World} {b n : Nat} {t : Nat → El} (h : RowE W b n t) (k : Chg nob W W') : RowE W' b n t := rowIs_keep h k
theorem RowE.lt {W : World} {b n : Nat} {t : Nat → El} (h : RowE W b n t) : b < W.heap.size := World.rowIs.lt h
theorem RowE.c0 {W : World} {b n : Nat} {t : Nat → El} (h : RowE W b n t) {i : Nat} (hi : i < n) : W.cell? ⟨b, i * 2, none⟩ = some (.int .i64 (t i).v.1) := by
  rw [World.rowIs.cell h (by omega), pf_even]; rfl
theorem RowE.c1 {W : World} {b n : Nat} {t : Nat → El} (h : RowE W b n t) {i : Nat} (hi : i < n) : W.cell? ⟨b, i * 2 + 1, none⟩ = some (.int .i64 (t i).v.2) := by
  rw [World.rowIs.cell h (by omega), pf_odd]; rfl
theorem RowE.congr {W : World} {b n : Nat} {t u : Nat → El} (h : RowE W b n t) (e : ∀ i, i < n → t i = u i) : RowE W b n u :=
  World.rowIs.congr h (fun i hi => by unfold pf cA cB; rw [e (i / 2) (by omega)])
theorem RowE.pairs {W : World} {b n : Nat} {t : Nat → El} (h : RowE W b n t) : PairE W (some ⟨b, 0, none⟩) n t := PairV.of_row h (Nat.le_refl _)
theorem RowE.own {W : World} {B b n : Nat} {t : Nat → El} (h : RowE W b n t) (hB : B ≤ b) : OwnE W B (some ⟨b, 0, none⟩) n (cA t) (cB t) := OwnE.of_row h hB
theorem RowE.other {W : World} {b g n : Nat} {t : Nat → El} (h : RowE W b n t) (hne : b ≠ g) (o o' : Nat) (u v : Value) : RowE ((W.setCell ⟨g, o, none⟩ u).setCell ⟨g, o', none⟩ v) b n t :=
  World.rowIs.setOther (a := ⟨g, o', none⟩) (World.rowIs.setOther (a := ⟨g, o, none⟩) h hne u) hne v
/-- One element of a list put anew. -/
def upE (t : Nat → El) (k : Nat) (x : El) (i : Nat) : El := if i = k then x else t i
theorem RowE.set {W : World} {b n : Nat} {t : Nat → El} (h : RowE W b n t) (k : Nat) (x : El) : RowE ((W.setCell ⟨b, k * 2, none⟩ (.int .i64 x.v.1)).setCell ⟨b, k * 2 + 1, none⟩ (.int .i64 x.v.2)) b n (upE t k x) :=
  World.rowIs.congr (World.rowIs.set (World.rowIs.set h (k * 2) _) (k * 2 + 1) _) (fun i hi => by
    by_cases e1 : i = k * 2 + 1
    · subst e1; simp [pf_odd, cB, upE]
    · by_cases e2 : i = k * 2
      · subst e2; simp [pf_even, cA, upE]
      · have e3 : ¬ i / 2 = k := by omega
        simp [e1, e2, pf, cA, cB, upE, e3])
theorem chg2_at {P : Nat → Prop} {w W : World} (h : Chg P w W) (g : Nat) (hg : g < w.heap.size → P g) (o o' : Nat) (u v : Value) : Chg P w ((W.setCell ⟨g, o, none⟩ u).setCell ⟨g, o', none⟩ v) :=
  (h.setCell (p := ⟨g, o, none⟩) hg u).setCell (p := ⟨g, o', none⟩) hg v

/- What sums, differences and products of elements come to, by the model. -/

theorem sb_el (x y : El) (w : World) : Calls Tryz.prog 109 #[.agg #[.int .i64 x.v.1, .int .i64 x.v.2], .agg #[.int .i64 y.v.1, .int .i64 y.v.2]] w fun e w' => e = .returned (.agg #[.int .i64 (El.sb x y).v.1, .int .i64 (El.sb x y).v.2]) ∧ Chg nob w w' :=
  minus_any _ _ _ _ w x.lo1 x.hi1 x.lo2 x.hi2 y.lo1 y.hi1 y.lo2 y.hi2

theorem ml_el (x y : El) (w : World) : Calls Tryz.prog 108 #[.agg #[.int .i64 x.v.1, .int .i64 x.v.2], .agg #[.int .i64 y.v.1, .int .i64 y.v.2]] w fun e w' => e = .returned (.agg #[.int .i64 (El.ml x y).v.1, .int .i64 (El.ml x y).v.2]) ∧ Chg nob w w' :=
  times_any _ _ _ _ w x.lo1 x.hi1 x.lo2 x.hi2 y.lo1 y.hi1 y.lo2 y.hi2

end Go.Proofs.YtppiilbcnkphbaaGreat

namespace Go.Proofs.YtppiilbcnkphbaaGreat
open Go.RowKit
set_option linter.unusedVariables false

section
variable {P : Program} {ops : Array Oper} {Q : Exit → Act → World → Prop} {md : Region.Mode} {S : World → Prop} {L : Nat}
/-- Whatever order is picked from here on, and S holds behind every operation that is carried out while operation L has not come up. -/
def wpAnyL (P : Program) (md : Region.Mode) (ops : Array Oper) (Q : Exit → Act → World → Prop) (S : World → Prop) (L : Nat) : Nat → Array Bool → Act → World → Prop
  | 0, listed, a, w => Region.ready md ops listed = [] ∧ Q .normal a w
  | fuel + 1, listed, a, w =>
    (Region.ready md ops listed = [] → Q .normal a w) ∧
    ∀ i ∈ Region.ready md ops listed, wpOp P ops Q i (fun a' w' => ((listed.setIfInBounds i true).getD L true = false → S w') ∧ wpAnyL P md ops Q S L fuel (listed.setIfInBounds i true) a' w') a w
theorem wpAny_ofL : ∀ (fuel : Nat) (listed : Array Bool) (a : Act) (w : World), wpAnyL P md ops Q S L fuel listed a w → wpAny P md ops Q fuel listed a w
  | 0, _, _, _, h => h
  | fuel + 1, _, _, _, h => ⟨h.1, fun i hi => wpOp_mono (fun a' w' h' => wpAny_ofL fuel _ a' w' h'.2) (h.2 i hi)⟩
/-- Operation L waits for operation i. -/
def waitsL (md : Region.Mode) (ops : Array Oper) (L i : Nat) : Prop := ∃ oL, ops[L]? = some oL ∧ ∃ e ∈ oL.after, Region.binds md e = true ∧ e.on = i
theorem wpAnyL_first {T : World → Prop} {i : Nat} {oi : Oper} {v : Value} (hi : ops[i]? = some oi) (hsel : ∀ (j : Nat) (o : Oper) cs b, ops[j]? = some o → o.op ≠ .select cs b)
    (hQ : ∀ c a w, Q (.panic c) (a.put oi.dst v) w → Q (.panic c) a w) (hiL : i ≠ L) (hT : ∀ w, S w → T w) (hw : (∀ w, T w) ∨ waitsL md ops L i) :
    ∀ (fuel : Nat) (listed : Array Bool) (a : Act) (w : World),
      (∀ j oj, ops[j]? = some oj → j ≠ i → listed.getD j true = false → (∀ e ∈ oj.after, Region.binds md e = true → e.on ≠ i) → oi.apart ops oj = true) →
      i ∈ Region.ready md ops listed → YieldsIf P ops T oi v a → (listed.getD L true = false → S w) → ((∀ w, T w) ∨ listed.getD L true = false) →
      wpAnyL P md ops Q S L fuel (listed.setIfInBounds i true) (a.put oi.dst v) w → wpAnyL P md ops Q S L (fuel + 1) listed a w := by
  intro fuel
  induction fuel with
  | zero =>
    intro listed a w _ hr hy hS hl H
    refine ⟨fun h => (by rw [h] at hr; cases hr), fun j hj => ?_⟩
    by_cases hji : j = i
    · subst hji
      exact hy.wpOp hi (hl.elim (fun h => h w) (fun h => hT w (hS h))) ⟨fun h => hS (by rw [getD_set_ne true hiL] at h; exact h), H⟩
    · have := ready_mono hj hji
      rw [H.1] at this
      cases this
  | succ fuel ih =>
    intro listed a w hfree hr hy hS hl H
    refine ⟨fun h => (by rw [h] at hr; cases hr), fun j hj => ?_⟩
    by_cases hji : j = i
    · subst hji
      exact hy.wpOp hi (hl.elim (fun h => h w) (fun h => hT w (hS h))) ⟨fun h => hS (by rw [getD_set_ne true hiL] at h; exact h), H⟩
    · have h1 := H.2 j (ready_mono hj hji)
      obtain ⟨hjun, oj, hoj, hall⟩ := mem_ready.1 hj
      have hnot : ∀ e ∈ oj.after, Region.binds md e = true → e.on ≠ i := fun e he hb heq => by
        have h1 := hall e he hb
        have h0 := (mem_ready.1 hr).1
        rw [heq] at h1
        rcases Nat.lt_or_ge i listed.size with h' | h'
        · simp [h'] at h0 h1; rw [h0] at h1; cases h1
        · simp [Array.getElem?_eq_none h'] at h1
      have h2 := wpOp_putIf hoj (hfree j oj hoj hji hjun hnot) (fun cs b => hsel i oi cs b hi) (fun cs b => hsel j oj cs b hoj) hQ hy h1
      have hfree' : ∀ k ok, ops[k]? = some ok → k ≠ i → (listed.setIfInBounds j true).getD k true = false →
          (∀ e ∈ ok.after, Region.binds md e = true → e.on ≠ i) → oi.apart ops ok = true := fun k ok hk hki hun hno => by
        refine hfree k ok hk hki ?_ hno
        by_cases hjk : j = k
        · subst hjk; exact hjun
        · rw [getD_set_ne true hjk] at hun; exact hun
      have hl' : (∀ w, T w) ∨ (listed.setIfInBounds j true).getD L true = false := by
        rcases hw with h | ⟨oL, hoL, e, he, hb, heq⟩
        · exact .inl h
        · rcases hl with h | h
          · exact .inl h
          · right
            by_cases hjL : j = L
            · subst hjL
              rw [hoL] at hoj
              cases hoj
              exact absurd heq (hnot e he hb)
            · rw [getD_set_ne true hjL]; exact h
      have hc : ∀ (w' : World), (((listed.setIfInBounds i true).setIfInBounds j true).getD L true = false → S w') → ((listed.setIfInBounds j true).getD L true = false → S w') := fun w' h hu => by
        refine h ?_
        rw [Array.setIfInBounds_comm _ _ (Ne.symm hji), getD_set_ne true hiL]
        exact hu
      refine wpOp_mono (fun a' w' h3 => ⟨hc w' h3.2.1, ih (listed.setIfInBounds j true) a' w' hfree' (ready_mono hr (Ne.symm hji)) h3.1 (hc w' h3.2.1) hl' ?_⟩) h2
      rw [Array.setIfInBounds_comm _ _ hji]
      exact h3.2.2
/-- A load, or another operation that L waits for, is taken first. -/
theorem wpAnyL_take {i : Nat} {oi : Oper} {v : Value} {fuel : Nat} {listed : Array Bool} {a : Act} {w : World} (hi : ops[i]? = some oi)
    (hs : Region.noSelect ops = true) (hf : Region.free md ops listed i = true) (hr : (Region.ready md ops listed).contains i = true)
    (hQ : ∀ c a w, Q (.panic c) (a.put oi.dst v) w → Q (.panic c) a w) (hiL : (i == L) = false) (hw : ((ops[L]?.map (fun o => o.after.toList.any (fun e => Region.binds md e && e.on == i))) == some true) = true)
    (hl : listed.getD L true = false) (hy : YieldsIf P ops S oi v a) (hS : S w)
    (h : wpAnyL P md ops Q S L fuel (listed.setIfInBounds i true) (a.put oi.dst v) w) : wpAnyL P md ops Q S L (fuel + 1) listed a w :=
  wpAnyL_first (T := S) hi (Region.noSelect_spec hs) hQ (by simpa using hiL) (fun _ h => h) (.inr (by
    cases ho : ops[L]? with
    | none => rw [ho] at hw; simp at hw
    | some oL =>
      rw [ho] at hw
      simp only [Option.map_some, beq_iff_eq, Option.some.injEq, List.any_eq_true, Bool.and_eq_true] at hw
      obtain ⟨e, he, hb, heq⟩ := hw
      exact ⟨oL, ho, e, Array.mem_toList_iff.1 he, hb, heq⟩)) fuel listed a w (Region.free_spec hi hf) (by simpa using hr) hy (fun _ => hS) (.inr hl) h
def AllReadyL (P : Program) (md : Region.Mode) (ops : Array Oper) (Q : Exit → Act → World → Prop) (S : World → Prop) (L : Nat) (fuel : Nat) (listed : Array Bool) (a : Act) (w : World) (rs : List Nat) : Prop :=
  ∀ i ∈ rs, wpOp P ops Q i (fun a' w' => ((listed.setIfInBounds i true).getD L true = false → S w') ∧ wpAnyL P md ops Q S L fuel (listed.setIfInBounds i true) a' w') a w
theorem AllReadyL.nil {fuel : Nat} {listed : Array Bool} {a : Act} {w : World} : AllReadyL P md ops Q S L fuel listed a w [] := fun _ h => by cases h
theorem AllReadyL.cons {fuel : Nat} {listed : Array Bool} {a : Act} {w : World} {i : Nat} {o : Oper} {rs : List Nat} (ho : ops[i]? = some o)
    (h : ∀ K' : Act → World → Prop, Shut (∀ a w, S w → (S w → wpAnyL P md ops Q S L fuel (listed.setIfInBounds i true) a w) → K' a w) → if Region.wanted o (yielded ops a.tmps) = true then Oper.wp P o a w K' Q else K' (a.put o.dst undef) w)
    (hs : AllReadyL P md ops Q S L fuel listed a w rs) : AllReadyL P md ops Q S L fuel listed a w (i :: rs) := fun j hj => by
  rcases List.mem_cons.1 hj with rfl | hj
  · exact wpOp_step ho (fun K' hK => h K' (fun a w hS hW => hK a w ⟨fun _ => hS, hW hS⟩))
  · exact hs j hj
/-- The last one: S is not asked for behind it. -/
theorem AllReadyL.last {fuel : Nat} {listed : Array Bool} {a : Act} {w : World} {i : Nat} {o : Oper} (ho : ops[i]? = some o) (hl : (listed.setIfInBounds i true).getD L true = true)
    (h : ∀ K' : Act → World → Prop, Shut (∀ a w, wpAnyL P md ops Q S L fuel (listed.setIfInBounds i true) a w → K' a w) → if Region.wanted o (yielded ops a.tmps) = true then Oper.wp P o a w K' Q else K' (a.put o.dst undef) w) : AllReadyL P md ops Q S L fuel listed a w [i] := fun j hj => by
  rcases List.mem_cons.1 hj with rfl | hj
  · exact wpOp_step ho (fun K' hK => h K' (fun a w hW => hK a w ⟨fun hu => (by rw [hl] at hu; cases hu), hW⟩))
  · cases hj
theorem wpAnyL_ready {rs : List Nat} {fuel : Nat} {listed : Array Bool} {a : Act} {w : World} (hr : Region.ready md ops listed = rs) (hne : rs ≠ [])
    (h : AllReadyL P md ops Q S L fuel listed a w rs) : wpAnyL P md ops Q S L (fuel + 1) listed a w := ⟨fun h0 => absurd (hr ▸ h0) hne, hr ▸ h⟩
theorem wpAnyL_done {listed : Array Bool} {a : Act} {w : World} (hr : Region.ready md ops listed = []) (h : Q .normal a w) :
    ∀ fuel, wpAnyL P md ops Q S L fuel listed a w
  | 0 => ⟨hr, h⟩
  | _ + 1 => ⟨fun _ => h, by rw [hr]; simp⟩
theorem wp_regionL {id : Nat} {a : Act} {w : World} {L : Nat} (hm : P.follows .mixedOrders = true) (hS : S w.drew)
    (h : S w.drew → wpAnyL P .any ops Q S L ops.size (Array.replicate ops.size false) a w.drew) : (Code.region id ops true).wp P Q a w :=
  wp_region_any hm (wpAny_ofL _ _ _ _ (h hS))
end

end Go.Proofs.YtppiilbcnkphbaaGreat
