/- Several texts in one: What the model's values at the powers of a root answer: a contract. Conditions: elements of the greater field, lists of at most 512 that can be read, a number of the field. · What the model's value of a polynomial answers: a contract. Conditions: elements of the greater field, a list of at most 4096 that can be read. · What the model's way back from values to coefficients answers: a contract. Conditions: elements of the greater field, a list of 2 to the m, at most 512, that can be read. · What the model's Ntt and InverseNtt answer: contracts. Conditions: lists that can be read, of at most 2 to the 40. -/
import Derived.Test.YtagjffjdoimhbadBdk
import Derived.Test.YtagjffjdoimhbadTabF
import Derived.Test.YtagjffjdoimhbadRegL
import Derived.Laws.CopyOwn
import Derived.Test.YtagjffjdoimhbadElR
import Derived.Test.YtagjffjdoimhbadNttZ
import Derived.Test.YtagjffjdoimhbadTabQ
namespace Go.Proofs.Ytagjffjdoimhbad
open Go.ChangeShapes Go.WideShapes Go.ChangeAt Go.RowKit
set_option linter.unusedVariables false
set_option maxRecDepth 100000
set_option linter.unusedSimpArgs false

theorem flPairs' {w : World} {B n : Nat} {v : Value} {f g : Nat → Int} (ho : w.ownsRow B 28 2 v n ((List.range (n * 2)).map (pf f g))) : ∃ c cap, v = .slice c n cap ∧ PairV w c n f g := by
  obtain ⟨c, cap, e, _, h⟩ := OwnE.of_owns ho
  exact ⟨c, cap, e, h.pairs⟩

end Go.Proofs.Ytagjffjdoimhbad

namespace Go.Proofs.Ytagjffjdoimhbad
open Go.ChangeShapes Go.WideShapes Go.ChangeAt Go.RowKit
set_option linter.unusedVariables false
set_option maxRecDepth 100000
set_option linter.unusedSimpArgs false

end Go.Proofs.Ytagjffjdoimhbad

namespace Go.Proofs.Ytagjffjdoimhbad
open Go.ChangeShapes Go.WideShapes Go.ChangeAt Go.RowKit
set_option linter.unusedVariables false
set_option maxRecDepth 100000
set_option linter.unusedSimpArgs false

/-- A row of n elements in block b, with room behind. -/
def RowN (W : World) (b n : Nat) (t : Nat → El) : Prop := ∃ (N : Nat) (h : Nat → Value), W.rowIs b 28 N h ∧ n * 2 ≤ N ∧ ∀ i, i < n * 2 → h i = pf (cA t) (cB t) i
theorem RowN.of {W : World} {B n : Nat} {c : Option Addr} {t : Nat → El} (h : OwnE W B c n (cA t) (cB t)) (h1 : 1 ≤ n) : ∃ b, c = some ⟨b, 0, none⟩ ∧ B ≤ b ∧ RowN W b n t := by
  rcases h with rfl | ⟨b, N, h, rfl, hB, hr, hN, he⟩
  · omega
  · exact ⟨b, rfl, hB, N, h, hr, hN, he⟩
theorem RowN.own {W : World} {B b n : Nat} {t : Nat → El} (h : RowN W b n t) (hB : B ≤ b) : OwnE W B (some ⟨b, 0, none⟩) n (cA t) (cB t) := by
  obtain ⟨N, h, hr, hN, he⟩ := h
  exact .inr ⟨b, N, h, rfl, hB, hr, hN, he⟩
theorem RowN.keep {W W' : World} {b n : Nat} {t : Nat → El} (h : RowN W b n t) (k : Chg nob W W') : RowN W' b n t := by
  obtain ⟨N, h, hr, hN, he⟩ := h
  exact ⟨N, h, rowIs_keep hr k, hN, he⟩
theorem RowN.lt {W : World} {b n : Nat} {t : Nat → El} (h : RowN W b n t) : b < W.heap.size := by
  obtain ⟨N, h, hr, hN, he⟩ := h
  exact World.rowIs.lt hr
theorem RowN.fz {W : World} {b n : Nat} {t : Nat → El} (h : RowN W b n t) (o : Nat) : W.frozen? ⟨b, o, none⟩ = false := by
  obtain ⟨N, h, hr, hN, he⟩ := h
  exact World.rowIs.frozen hr o
theorem RowN.c0 {W : World} {b n : Nat} {t : Nat → El} (h : RowN W b n t) {i : Nat} (hi : i < n) : W.cell? ⟨b, i * 2, none⟩ = some (.int .i64 (t i).v.1) := by
  obtain ⟨N, h, hr, hN, he⟩ := h
  rw [World.rowIs.cell hr (by omega), he _ (by omega), pf_even]; rfl
theorem RowN.c1 {W : World} {b n : Nat} {t : Nat → El} (h : RowN W b n t) {i : Nat} (hi : i < n) : W.cell? ⟨b, i * 2 + 1, none⟩ = some (.int .i64 (t i).v.2) := by
  obtain ⟨N, h, hr, hN, he⟩ := h
  rw [World.rowIs.cell hr (by omega), he _ (by omega), pf_odd]; rfl
theorem RowN.congr {W : World} {b n : Nat} {t u : Nat → El} (h : RowN W b n t) (e : ∀ i, i < n → t i = u i) : RowN W b n u := by
  obtain ⟨N, h, hr, hN, he⟩ := h
  refine ⟨N, h, hr, hN, fun i hi => ?_⟩
  rw [he i hi]
  unfold pf cA cB
  rw [e (i / 2) (by omega)]
theorem RowN.set {W : World} {b n : Nat} {t : Nat → El} (h : RowN W b n t) (k : Nat) (x : El) : RowN ((W.setCell ⟨b, k * 2, none⟩ (.int .i64 x.v.1)).setCell ⟨b, k * 2 + 1, none⟩ (.int .i64 x.v.2)) b n (upE t k x) := by
  obtain ⟨N, h, hr, hN, he⟩ := h
  refine ⟨N, _, World.rowIs.set (World.rowIs.set hr (k * 2) _) (k * 2 + 1) _, hN, fun i hi => ?_⟩
  have h0 := he i hi
  by_cases e1 : i = k * 2 + 1
  · subst e1; simp [pf_odd, cB, upE]
  · by_cases e2 : i = k * 2
    · subst e2; simp [pf_even, cA, upE]
    · have e3 : ¬ i / 2 = k := by omega
      simp only [pf, cA, cB] at h0
      simp [e1, e2, pf, cA, cB, upE, e3, h0]

/-- The first k values times D. -/
def bst (A : Nat → El) (D : El) (k i : Nat) : El := if i < k then El.ml (A i) D else A i
theorem bst_zero (A : Nat → El) (D : El) (i : Nat) : A i = bst A D 0 i := by unfold bst; rw [if_neg (by omega)]
theorem bst_at (A : Nat → El) (D : El) (k : Nat) : bst A D k k = A k := by unfold bst; rw [if_neg (by omega)]
theorem bst_step (A : Nat → El) (D : El) (k i : Nat) : upE (bst A D k) k (El.ml (A k) D) i = bst A D (k + 1) i := by
  unfold upE bst
  by_cases e : i = k
  · subst e; rw [if_pos rfl, if_pos (by omega)]
  · rw [if_neg e]
    by_cases h : i < k
    · rw [if_pos h, if_pos (by omega)]
    · rw [if_neg h, if_neg (by omega)]

end Go.Proofs.Ytagjffjdoimhbad

namespace Go.Proofs.Ytagjffjdoimhbad
open Go.ChangeShapes Go.WideShapes Go.ChangeAt Go.RowKit
set_option linter.unusedVariables false
set_option maxRecDepth 100000
set_option linter.unusedSimpArgs false

/-- How long the answer is. -/
def akn7 (f g : Nat → Int) (n : Nat) : Nat := if akc7 f g n = 0 then n else 0
def ntv (f g : Nat → Int) (n : Nat) : Nat → El := El.nt n.log2 (elF f g) (El.rtE n.log2)
def bkv (f g : Nat → Int) (n : Nat) : Nat → El := El.bk n.log2 (elF f g) (El.rtE n.log2)
theorem sq_ofi (m : Nat) : El.ofi (Fld.sq (24 - m)) = El.rtE m := rfl
theorem akc7_long {f g : Nat → Int} {n : Nat} (h : 4096 < n) : akc7 f g n = 2 := by unfold akc7; rw [if_pos h]
theorem akn7_none {f g : Nat → Int} {n : Nat} (h : ¬ akc7 f g n = 0) : akn7 f g n = 0 := if_neg h
theorem akn7_all {f g : Nat → Int} {n : Nat} (h : akc7 f g n = 0) : akn7 f g n = n := if_pos h

end Go.Proofs.Ytagjffjdoimhbad
