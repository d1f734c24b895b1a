/- Several texts in one: A matrix at two points: plain. · A matrix's table at a place of noughts and ones: plain numbers. No condition but those that each theorem states. -/
import Derived.Test.YtkpohajmcngjcaaDoorBzah
import Derived.Test.YtkpohajmcngjcaaDoorBzaq
import Derived.Test.YtkpohajmcngjcaaDoorBzal
import Derived.Test.YtkpohajmcngjcaaDoorBzap
import Derived.Test.YtkpohajmcngjcaaDoorBzaw
import Derived.Test.YtkpohajmcngjcaaDoorBzak
namespace Go.Proofs.YtkpohajmcngjcaaDoor

/-- The first k entries, each times its row's and its column's share. -/
def mte (X : Nat → En) (a b : Nat → El) : Nat → El
  | 0 => El.zr
  | k + 1 => El.ad (mte X a b k) (El.ml (El.ofi (X k).2.2) (El.ml (a (X k).1.toNat) (b (X k).2.1.toNat)))
theorem mte_congr {X : Nat → En} {a b a' b' : Nat → El} {n : Nat} (h : ∀ i, i < n → a (X i).1.toNat = a' (X i).1.toNat ∧ b (X i).2.1.toNat = b' (X i).2.1.toNat) : mte X a b n = mte X a' b' n := by
  induction n with
  | zero => rfl
  | succ n ih =>
    unfold mte
    rw [ih (fun i hi => h i (by omega)), (h n (by omega)).1, (h n (by omega)).2]

end Go.Proofs.YtkpohajmcngjcaaDoor

namespace Go.Proofs.YtkpohajmcngjcaaDoor
open Go.ChangeShapes Go.WideShapes Go.ChangeAt Go.RowKit
set_option linter.unusedVariables false

/-- The value of the last of the first k entries that lies at a place, 0 if none does. -/
def mvl (X : Nat → En) (R C : Int) : Nat → Int
  | 0 => 0
  | k + 1 => if (X k).1 = R ∧ (X k).2.1 = C then (X k).2.2 else mvl X R C k
theorem mvl_zero {X : Nat → En} {R C : Int} : ∀ k, (∀ j, j < k → ¬ ((X j).1 = R ∧ (X j).2.1 = C)) → mvl X R C k = 0
  | 0, _ => rfl
  | k + 1, h => by rw [mvl, if_neg (h k (by omega))]; exact mvl_zero k (fun j hj => h j (by omega))
theorem ofi_0 : El.ofi 0 = El.zr := El.eq2 rfl rfl
theorem mte_bits {X : Nat → En} {n rr cc R C : Nat} (hr : rsg n X = true) (hw : ∀ i, i < n → win (2 ^ rr) (2 ^ cc) (X i) = true) (hR : R < 2 ^ rr) (hC : C < 2 ^ cc) : ∀ k, k ≤ n → mte X (El.eqp (El.bitE R) rr) (El.eqp (El.bitE C) cc) k = El.ofi (mvl X R C k)
  | 0, _ => ofi_0.symm
  | k + 1, hk => by
    obtain ⟨a0, a1, b0, b1, _, _⟩ := win_parts (hw k (by omega))
    have e1 : (X k).1.toNat < 2 ^ rr := by have := pow_cast rr; omega
    have e2 : (X k).2.1.toNat < 2 ^ cc := by have := pow_cast cc; omega
    rw [mte, mte_bits hr hw hR hC k (by omega), El.eqp_at e1 hR, El.eqp_at e2 hC, mvl]
    by_cases h1 : (X k).1 = (R : Int)
    · by_cases h2 : (X k).2.1 = (C : Int)
      · rw [if_pos (show (X k).1.toNat = R by omega), if_pos (show (X k).2.1.toNat = C by omega), El.ml_on, El.ml_on, if_pos ⟨h1, h2⟩]
        rw [mvl_zero k (fun j hj hh => by
          have := enlt_ne (rsg_lt hr hj (show k < n by omega))
          exact this ⟨by rw [hh.1, h1], by rw [hh.2, h2]⟩), ofi_0, El.zr_ad]
      · rw [if_neg (show ¬ (X k).2.1.toNat = C by omega), El.ml_zr, El.ml_zr, El.ad_zr, if_neg (fun h => h2 h.2)]
    · rw [if_neg (show ¬ (X k).1.toNat = R by omega), El.zr_ml, El.ml_zr, El.ad_zr, if_neg (fun h => h1 h.1)]
theorem mvl_bd {X : Nat → En} {n : Nat} {r c : Int} (hw : ∀ i, i < n → win r c (X i) = true) (R C : Int) : ∀ k, k ≤ n → 0 ≤ mvl X R C k ∧ mvl X R C k < 2130706433
  | 0, _ => by unfold mvl; omega
  | k + 1, hk => by
    unfold mvl
    split
    · have := win_parts (hw k (by omega)); omega
    · exact mvl_bd hw R C k (by omega)
theorem elm_rsg {R C : Int} {n : Nat} {X : Nat → En} (h : elm R C n X = true) : rsg n X = true := by
  unfold elm at h
  simp only [Bool.and_eq_true] at h
  exact h.2
/-- A system's lists lie in blocks below B. -/
def SyLow (s : Sy) (a : SyA) (B : Nat) : Prop := (∀ xb xo, a.cA = some ⟨xb, xo, none⟩ → 0 < s.nA → xb < B) ∧ (∀ xb xo, a.cB = some ⟨xb, xo, none⟩ → 0 < s.nB → xb < B) ∧ (∀ xb xo, a.cC = some ⟨xb, xo, none⟩ → 0 < s.nC → xb < B)
theorem EntV.low9 {w : World} {c : Option Addr} {n : Nat} {X : Nat → En} (h : EntV w c n X) : ∀ xb xo, c = some ⟨xb, xo, none⟩ → 0 < n → xb < w.heap.size := fun xb xo e hn => by
  obtain ⟨b, o, e', hl, _⟩ := h 0 hn
  rw [e] at e'
  cases e'
  exact hl
theorem SyV.low9 {w : World} {s : Sy} {a : SyA} (h : SyV w s a) : SyLow s a w.heap.size := ⟨h.A.low9, h.B.low9, h.C.low9⟩
theorem SyV.far9 {P : Nat → Prop} {w w' : World} {s : Sy} {a : SyA} {B : Nat} (h : SyV w s a) (k : Chg P w w') (hP : ∀ b, P b → B ≤ b) (l : SyLow s a B) : SyV w' s a :=
  ⟨h.A.chg k (fun xb xo e hn _ q => by have := l.1 xb xo e hn; have := hP _ q; omega), h.B.chg k (fun xb xo e hn _ q => by have := l.2.1 xb xo e hn; have := hP _ q; omega), h.C.chg k (fun xb xo e hn _ q => by have := l.2.2 xb xo e hn; have := hP _ q; omega)⟩

end Go.Proofs.YtkpohajmcngjcaaDoor
