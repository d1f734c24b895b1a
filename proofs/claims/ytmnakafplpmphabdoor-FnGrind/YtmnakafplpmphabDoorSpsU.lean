/- What the model draws, whatever draws: contracts. Conditions: rows that can be read; a right source with draws left. -/
import Derived.Test.YtmnakafplpmphabDoorSpsD
import Derived.Test.YtmnakafplpmphabDoorSpsX
import Derived.Test.YtmnakafplpmphabDoorRedR
namespace Go.Proofs.YtmnakafplpmphabDoor
open Go.ChangeShapes Go.WideShapes Go.ChangeAt Go.RowKit
set_option linter.unusedVariables false
set_option maxRecDepth 100000
set_option linter.unusedSimpArgs false

/-- The two numbers of a source behind k draws. -/
def dnA (len : Nat) (a : Int) (k : Nat) : Int := if 0 < len then a + k else a
def dnC (len : Nat) (c : Int) (k : Nat) : Int := if 0 < len then c else c + k
/-- Its k-th draw from here. -/
def drE (f : Nat → Int) (len : Nat) (a : Int) (st : ByteArray) (ct : Int) (k : Nat) : Int := if 0 < len then f ((a + k).toNat % len) else drA st (ct + k)
def drF (g : Nat → Int) (len : Nat) (a : Int) (st : ByteArray) (ct : Int) (k : Nat) : Int := if 0 < len then g ((a + k).toNat % len) else drB st (ct + k)
theorem dnA_add (len : Nat) (a : Int) (k m : Nat) : dnA len (dnA len a k) m = dnA len a (k + m) := by
  unfold dnA; split <;> omega
theorem dnC_add (len : Nat) (c : Int) (k m : Nat) : dnC len (dnC len c k) m = dnC len c (k + m) := by
  unfold dnC; split <;> omega
theorem dnA_zero (len : Nat) (a : Int) : dnA len a 0 = a := by unfold dnA; split <;> omega
theorem dnC_zero (len : Nat) (c : Int) : dnC len c 0 = c := by unfold dnC; split <;> omega
theorem dnA_le (len : Nat) (a : Int) (k : Nat) : a ≤ dnA len a k ∧ dnA len a k ≤ a + k := by unfold dnA; split <;> omega
theorem dnC_le (len : Nat) (c : Int) (k : Nat) : c ≤ dnC len c k ∧ dnC len c k ≤ c + k := by unfold dnC; split <;> omega
theorem drE_add (f : Nat → Int) (len : Nat) (a : Int) (st : ByteArray) (ct : Int) (k m : Nat) : drE f len (dnA len a k) st (dnC len ct k) m = drE f len a st ct (k + m) := by
  unfold drE dnA dnC
  by_cases h : 0 < len
  · simp only [h, if_true]; rw [show a + (k : Int) + (m : Int) = a + ((k + m : Nat) : Int) by omega]
  · simp only [h, if_false]; rw [show ct + (k : Int) + (m : Int) = ct + ((k + m : Nat) : Int) by omega]
theorem drF_add (g : Nat → Int) (len : Nat) (a : Int) (st : ByteArray) (ct : Int) (k m : Nat) : drF g len (dnA len a k) st (dnC len ct k) m = drF g len a st ct (k + m) := by
  unfold drF dnA dnC
  by_cases h : 0 < len
  · simp only [h, if_true]; rw [show a + (k : Int) + (m : Int) = a + ((k + m : Nat) : Int) by omega]
  · simp only [h, if_false]; rw [show ct + (k : Int) + (m : Int) = ct + ((k + m : Nat) : Int) by omega]
theorem tmod_nat (a : Int) (len : Nat) (a0 : 0 ≤ a) (h : 0 < len) : a.tmod (len : Int) = ((a.toNat % len : Nat) : Int) := by
  rw [Int.tmod_eq_emod_of_nonneg a0, Int.natCast_emod, Int.toNat_of_nonneg a0]

set_option maxHeartbeats 1000000 in
theorem sDraw_any (c : Option Addr) (len cap : Nat) (at' : Int) (st : ByteArray) (ct : Int) (f g : Nat → Int) (w : World) (h : Hid (PairV w c len f g)) (hl : len ≤ 64) (hst : st.size = 32) (a0 : 0 ≤ at') (a1 : at' ≤ 1000000) (c0 : 0 ≤ ct) (c1 : ct ≤ 1000000) :
    Calls Tryd.prog 113 #[.agg #[.slice c len cap, .int .i64 at', .string st, .int .i64 ct]] w fun e w' => e = .returned (.tuple #[.agg #[.slice c len cap, .int .i64 (dnA len at' 1), .string st, .int .i64 (dnC len ct 1)], .agg #[.int .i64 (drE f len at' st ct 0), .int .i64 (drF g len at' st ct 0)]]) ∧ Chg nob w w' := by
  by_cases h0 : 0 < len
  · refine (sDrawS_any c len cap (at'.toNat % len) at' st ct f g w h (Nat.mod_lt _ h0) hl a0 a1 (tmod_nat at' len a0 h0)).mono ?_
    rintro e w' ⟨rfl, k⟩
    refine ⟨?_, k⟩
    have e1 : dnA len at' 1 = at' + 1 := by unfold dnA; rw [if_pos h0]; omega
    have e2 : dnC len ct 1 = ct := by unfold dnC; rw [if_pos h0]
    have e3 : drE f len at' st ct 0 = f (at'.toNat % len) := by unfold drE; rw [if_pos h0]; simp
    have e4 : drF g len at' st ct 0 = g (at'.toNat % len) := by unfold drF; rw [if_pos h0]; simp
    rw [e1, e2, e3, e4]
  · obtain rfl : len = 0 := by omega
    refine (sDrawH_any c cap at' st ct w hst c0 c1).mono ?_
    rintro e w' ⟨rfl, k⟩
    refine ⟨?_, k⟩
    have e1 : dnA 0 at' 1 = at' := rfl
    have e2 : dnC 0 ct 1 = ct + 1 := rfl
    have e3 : drE f 0 at' st ct 0 = drA st ct := by unfold drE; rw [if_neg (by omega)]; simp
    have e4 : drF g 0 at' st ct 0 = drB st ct := by unfold drF; rw [if_neg (by omega)]; simp
    rw [e1, e2, e3, e4]
end Go.Proofs.YtmnakafplpmphabDoor
