/- What QueryBits, Secure and Select answer, by plain functions. -/
import Derived.Test.YtbjhppamolmpeaaParM
import Derived.Test.YtbjhppamolmpeaaSetW
namespace Go.Proofs.Ytbjhppamolmpeaa
open Go.ChangeShapes Go.WideShapes Go.ChangeAt Go.RowKit
set_option linter.unusedVariables false
/-- Bits that may be asked for. -/
def btB (b : Int) : Bool := decide (0 ≤ b ∧ b ≤ 16)
/-- QueryBits. -/
def qvV (r q g : Int) : Int := if stb r q g then (qbN r.toNat q.toNat : Int) + g else 0
def qvC (r q g : Int) : Int := if stb r q g then 0 else 1
/-- Secure. -/
def seV (r q g b : Int) : Bool := stb r q g && btB b && decide (b ≤ (qbN r.toNat q.toNat : Int) + g)
def seC (r q g b : Int) : Int := if stb r q g then (if btB b then 0 else 4) else 1
/-- Select: the queries, the code. -/
def slB (b r g : Int) : Bool := btB b && stb r 1 g
def slQ (b r g : Int) : Nat := max (slN r.toNat (b - g).toNat) 1
def slC (b r g : Int) : Int := if slB b r g then (if slQ b r g ≤ 8 then 0 else 16) else 4
def slV (b r g : Int) (i : Nat) : Int := if slC b r g = 0 then (if i = 0 then r else if i = 1 then (slQ b r g : Int) else g) else 0
theorem sl_k (r : Nat) (r0 : 1 ≤ r) (r1 : r < 4) (b g : Int) (hb : b ≤ 16) (g0 : 0 ≤ g) : ∀ q, q < 9 → 1 ≤ q → decide (b ≤ (qbN r q : Int) + g) = decide (slQ b r g ≤ q) := fun q q1 q0 => by
  have h := sl_tab r r1 r0 (b - g).toNat (by omega) q q1 q0
  rw [decide_eq_decide] at h ⊢
  unfold slQ
  rw [Int.toNat_natCast]
  omega
theorem sl_low (r : Nat) (r0 : 1 ≤ r) (r1 : r < 4) (b g : Int) (hb : b ≤ 16) (g0 : 0 ≤ g) : min (b - g).toNat 8 + 1 ≤ slQ b r g ∧ slQ b r g ≤ 9 := by
  have h := sl_lo r r1 r0 (b - g).toNat (by omega)
  unfold slQ
  rw [Int.toNat_natCast]
  omega
/-- Select's answer. -/
def SlAns (b r g : Int) (e : Ending) : Prop := e = .returned (.tuple #[.agg #[.int .i64 (slV b r g 0), .int .i64 (slV b r g 1), .int .i64 (slV b r g 2)], .int .i64 (slC b r g)])
theorem slA_no {b r g c : Int} (h : slC b r g = c) (hc : c ≠ 0) {e : Ending} (he : e = .returned (.tuple #[.agg #[.int .i64 0, .int .i64 0, .int .i64 0], .int .i64 c])) : SlAns b r g e := by
  subst h
  unfold SlAns slV
  rw [if_neg hc, if_neg hc, if_neg hc]
  exact he
theorem slA_yes {b r g : Int} {K : Nat} (h : slC b r g = 0) (hK : slQ b r g = K) {e : Ending} (he : e = .returned (.tuple #[.agg #[.int .i64 r, .int .i64 (K : Int), .int .i64 g], .int .i64 0])) : SlAns b r g e := by
  subst hK
  unfold SlAns slV
  rw [if_pos h, if_pos h, if_pos h, h]
  exact he
end Go.Proofs.Ytbjhppamolmpeaa
