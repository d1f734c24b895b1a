/- Bits of places, plain: what the language's 'and' and 'xor' of a place and a power of two come to; a table on the way to its coefficients. No program is named here. -/
import Derived.Test.YtpcakjajnfbgdaaPolM
import Derived.Test.YtpcakjajnfbgdaaElE
namespace Go.Proofs.Ytpcakjajnfbgdaa
set_option linter.unusedVariables false
set_option linter.unusedSimpArgs false

theorem pow_le6 {n : Nat} (h : n ≤ 6) : 2 ^ n ≤ 64 := Nat.le_trans (Nat.pow_le_pow_right (by omega) h) (by decide)
def andOK (i j : Nat) : Bool := bits .and .i64 (i : Int) ((2 ^ j : Nat) : Int) == (if i.testBit j then ((2 ^ j : Nat) : Int) else 0)
def xorOK (i j : Nat) : Bool := bits .xor .i64 (i : Int) ((2 ^ j : Nat) : Int) == ((i ^^^ 2 ^ j : Nat) : Int)
theorem andOK_all : ((List.range 64).all fun i => (List.range 6).all fun j => andOK i j) = true := by kernel_rfl
theorem xorOK_all : ((List.range 64).all fun i => (List.range 6).all fun j => xorOK i j) = true := by kernel_rfl
theorem andOK_at {i j : Nat} (hi : i < 64) (hj : j < 6) : andOK i j = true := by
  have h := List.all_eq_true.1 andOK_all i (List.mem_range.2 hi)
  exact List.all_eq_true.1 h j (List.mem_range.2 hj)
theorem xorOK_at {i j : Nat} (hi : i < 64) (hj : j < 6) : xorOK i j = true := by
  have h := List.all_eq_true.1 xorOK_all i (List.mem_range.2 hi)
  exact List.all_eq_true.1 h j (List.mem_range.2 hj)
theorem and_bit0 {i j : Nat} (hi : i < 64) (hj : j < 6) (h : i.testBit j = false) : bits .and .i64 (i : Int) ((2 ^ j : Nat) : Int) = 0 := by
  have e := andOK_at hi hj
  unfold andOK at e
  rw [h] at e
  simpa using e
theorem and_bit1 {i j : Nat} (hi : i < 64) (hj : j < 6) (h : i.testBit j = true) : bits .and .i64 (i : Int) ((2 ^ j : Nat) : Int) = ((2 ^ j : Nat) : Int) := by
  have e := andOK_at hi hj
  unfold andOK at e
  rw [h] at e
  exact eq_of_beq e
theorem xor_bit {i j : Nat} (hi : i < 64) (hj : j < 6) : bits .xor .i64 (i : Int) ((2 ^ j : Nat) : Int) = ((i ^^^ 2 ^ j : Nat) : Int) := eq_of_beq (xorOK_at hi hj)
theorem shl_pow {m : Nat} (h : m ≤ 6) : IntKind.i64.wrap (2 ^ m) = ((2 ^ m : Nat) : Int) := by
  have := pow_le6 h
  rw [IntKind.wrap_i64]
  have e : ((2 : Int) ^ m) = ((2 ^ m : Nat) : Int) := by simp
  rw [e]
  generalize 2 ^ m = q at this ⊢
  omega
def shrOK (k j : Nat) : Bool := bits .and .i64 ((k : Int) / 2 ^ j) 1 == (El.bitE k j).v.1
theorem shrOK_all : ((List.range 64).all fun i => (List.range 6).all fun j => shrOK i j) = true := by kernel_rfl
theorem shr_bit {k j : Nat} (hk : k < 64) (hj : j < 6) : bits .and .i64 ((k : Int) / 2 ^ j) 1 = (El.bitE k j).v.1 :=
  eq_of_beq (List.all_eq_true.1 (List.all_eq_true.1 shrOK_all k (List.mem_range.2 hk)) j (List.mem_range.2 hj))
theorem bitE_b (k j : Nat) : (El.bitE k j).v.2 = 0 := by unfold El.bitE; cases k.testBit j <;> rfl
theorem bit_le {k j : Nat} (h : k.testBit j = true) : 2 ^ j ≤ k := Nat.ge_two_pow_of_testBit h
def subOK (i j : Nat) : Bool := !i.testBit j || (i ^^^ 2 ^ j == i - 2 ^ j)
theorem subOK_all : ((List.range 64).all fun i => (List.range 6).all fun j => subOK i j) = true := by kernel_rfl
theorem flip_sub {k j : Nat} (hk : k < 64) (hj : j < 6) (h : k.testBit j = true) : k ^^^ 2 ^ j = k - 2 ^ j := by
  have e := List.all_eq_true.1 (List.all_eq_true.1 subOK_all k (List.mem_range.2 hk)) j (List.mem_range.2 hj)
  unfold subOK at e
  rw [h] at e
  simpa using e
/-- A pass half done: the first k places. -/
def stK (back : Bool) (j : Nat) (t : Nat → El) (k i : Nat) : El := if i < k then El.stp back j t i else t i
theorem stp_flip (back : Bool) (t : Nat → El) {k j : Nat} (h : k.testBit j = true) : El.stp back j t (k ^^^ 2 ^ j) = t (k ^^^ 2 ^ j) := by
  unfold El.stp
  rw [El.flip_at, h]
  rfl
theorem stK_skip (back : Bool) {t : Nat → El} {k j : Nat} (h : k.testBit j = false) (i : Nat) : stK back j t k i = stK back j t (k + 1) i := by
  unfold stK
  by_cases e : i = k
  · subst e
    rw [if_neg (by omega), if_pos (by omega), El.stp, h]
    rfl
  · by_cases h2 : i < k
    · rw [if_pos h2, if_pos (by omega)]
    · rw [if_neg h2, if_neg (by omega)]
theorem stK_step (back : Bool) (t : Nat → El) {k j : Nat} (h : k.testBit j = true) (i : Nat) : upE (stK back j t k) k (if back then El.ad (t k) (t (k ^^^ 2 ^ j)) else El.sb (t k) (t (k ^^^ 2 ^ j))) i = stK back j t (k + 1) i := by
  unfold upE stK
  by_cases e : i = k
  · subst e
    rw [if_pos rfl, if_pos (Nat.lt_succ_self i), El.stp, h]
    rfl
  · rw [if_neg e]
    by_cases h2 : i < k
    · rw [if_pos h2, if_pos (by omega)]
    · rw [if_neg h2, if_neg (by omega)]
theorem stK_all (back : Bool) {t T : Nat → El} {n j N i : Nat} (hT : ∀ i, i < 2 ^ n → T i = El.cfs back t j i) (hj : j < n) (hi : i < 2 ^ n) (hN : 2 ^ n = N) : stK back j T N i = El.cfs back t (j + 1) i := by
  unfold stK
  rw [if_pos (by omega), El.cfs, El.stp, El.stp, hT i hi, hT _ (El.flip_lt hi hj)]
end Go.Proofs.Ytpcakjajnfbgdaa
