/- What the greater field's exported functions answer, whatever the numbers: contracts. No condition but those that are stated. -/
import Derived.Test.YtagjffjdoimhbapExtW
namespace Go.Proofs.Ytagjffjdoimhbap
open Go.ChangeShapes Go.WideShapes Go.ChangeAt Go.RowKit
set_option linter.unusedVariables false
set_option linter.unusedSimpArgs false

/-- What is answered of two elements. -/
def eb (a b c d v : Int) : Int := if eok a b && eok c d then v else 0
def ebad (a b c d : Int) : Int := if eok a b && eok c d then 0 else 1
/-- What is answered of one. -/
def e1 (a b v : Int) : Int := if eok a b then v else 0
def e1bad (a b : Int) : Int := if eok a b then 0 else 1
/-- Of a power. -/
def powE1 (a b n : Int) : Int := if eok a b then (if n < 0 then 0 else (Fld.ep (a, b) n.toNat).1) else 0
def powE2 (a b n : Int) : Int := if eok a b then (if n < 0 then 0 else (Fld.ep (a, b) n.toNat).2) else 0
def powEc (a b n : Int) : Int := if eok a b then (if n < 0 then 4 else 0) else 1
/-- The element is 0. -/
def isz (a b : Int) : Bool := a == 0 && b == 0
def invE1 (a b : Int) : Int := if eok a b then (if isz a b then 0 else Fld.iA a b) else 0
def invE2 (a b : Int) : Int := if eok a b then (if isz a b then 0 else Fld.iB a b) else 0
def invEc (a b : Int) : Int := if eok a b then (if isz a b then 7 else 0) else 1

set_option maxHeartbeats 1000000 in
theorem extInv_any (a b : Int) (w : World) (a0 : 0 ≤ a) (a1 : a < 2130706433) (b0 : 0 ≤ b) (b1 : b < 2130706433) :
    Calls Try.prog 59 #[.agg #[.int .i64 a, .int .i64 b]] w fun e w' => e = .returned (.agg #[.int .i64 (Fld.iA a b), .int .i64 (Fld.iB a b)]) ∧ Chg nob w w' := by
  have n0 := Fld.ng_lo b
  have n1 := Fld.ng_hi b
  have m0 := Fld.nm_lo a b
  have m1 := Fld.nm_hi a b
  have i0 : 0 ≤ Fld.pw (Fld.nm a b) 2130706431 % 2130706433 := mod_lo _
  have i1 : Fld.pw (Fld.nm a b) 2130706431 % 2130706433 < 2130706433 := mod_hi _
  have z0 : (0 : Int) ≤ 0 := by decide
  have z1 : (0 : Int) < 2130706433 := by decide
  go_enter Try.func59, Try.ntmps59
  go_wp2_with (first | (go_at_call 76; refine (norm_any _ _ _  (by assumption) (by assumption) (by assumption) (by assumption)).mono ?_; rintro e w1 ⟨rfl, hk⟩; obtain ⟨hc, hf, hz⟩ := kcell hk (w.heap.size + 2) (by first | assumption | simp)) | (go_at_call 75; refine (toMont_any _ _ (by assumption) (by assumption)).mono ?_; rintro e w' ⟨rfl, rfl⟩) | (go_at_call 74; refine (montInverse_any _ _).mono ?_; rintro e w' ⟨rfl, rfl⟩) | (go_at_call 73; refine (fromMont_any _ _).mono ?_; rintro e w' ⟨rfl, rfl⟩) | (go_at_call 77; refine (conj_any _ _ _  (by assumption) (by assumption) (by assumption) (by assumption)).mono ?_; rintro e w1 ⟨rfl, hk⟩; obtain ⟨hc, hf, hz⟩ := kcell hk (w.heap.size + 2) (by first | assumption | simp)) | (go_at_call 44; refine (times_any _ _ _ _ _  (by assumption) (by assumption) (by assumption) (by assumption) (by assumption) (by assumption) (by assumption) (by assumption)).mono ?_; rintro e w1 ⟨rfl, hk⟩; obtain ⟨hc, hf, hz⟩ := kcell hk (w.heap.size + 2) (by first | assumption | simp)))
  exact bodyPost_ret (v := .agg #[.int .i64 (Fld.mA a (Fld.ng b) (Fld.iv1 a b) 0), .int .i64 (Fld.mB a (Fld.ng b) (Fld.iv1 a b) 0)]) (by simp [results, Try.results59, go_sem, *, Fld.iv1]) rfl ⟨by rw [Fld.iA_conj, Fld.iB_conj], (by repeat (first | with_reducible exact Chg.refl _ _ | with_reducible refine Chg.alloc ?_ _ | with_reducible refine Chg.drewN ?_ _ | with_reducible refine Chg.drew ?_ | with_reducible refine Chg.setCell ?_ (fun l => absurd l (by dsimp only; omega)) _ | with_reducible refine Chg.trans ?_ (by assumption)))⟩

end Go.Proofs.Ytagjffjdoimhbap
