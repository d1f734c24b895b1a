/- Lanes by their bytes: plain facts. No program is named here. -/
import Derived.Test.YtmnakafplpmphabDoorKecN
namespace Go.Proofs.YtmnakafplpmphabDoor

theorem byte_hi (y : Int) (h0 : 0 ≤ y) (h1 : y < 256) (t : Nat) (ht : 8 ≤ t) : (BitVec.ofInt 64 y).getLsbD t = false := by
  obtain ⟨n, hn⟩ := Int.eq_ofNat_of_zero_le h0
  rw [hn, BitVec.ofInt_natCast, ← BitVec.testBit_toNat, BitVec.toNat_ofNat]
  apply Nat.testBit_lt_two_pow
  refine Nat.lt_of_le_of_lt (Nat.mod_le _ _) ?_
  have : n < 2 ^ 8 := by omega
  exact Nat.lt_of_lt_of_le this (Nat.pow_le_pow_right (by decide) ht)
theorem bl_bit (z : Nat → Int) (hz : isB z) (k b t : Nat) (hb : b < 8) (ht : t < 8) : (bl z k).getLsbD (8 * b + t) = (decide (b = k % 8) && (BitVec.ofInt 64 (z k)).getLsbD t) := by
  unfold bl
  rw [BitVec.getLsbD_shiftLeft]
  by_cases h : b = k % 8
  · subst h
    have e : 8 * (k % 8) + t - 8 * (k % 8) = t := by omega
    rw [e]
    simp
    omega
  · by_cases h2 : b < k % 8
    · have : 8 * b + t < 8 * (k % 8) := by omega
      simp [this, h]
    · have e : 8 ≤ 8 * b + t - 8 * (k % 8) := by omega
      rw [byte_hi (z k) (hz k).1 (hz k).2 _ e]
      simp [h]
theorem ln_bit (z : Nat → Int) (hz : isB z) : ∀ (N l b t : Nat), b < 8 → t < 8 → (ln z N l).getLsbD (8 * b + t) = (decide (8 * l + b < N) && (BitVec.ofInt 64 (z (8 * l + b))).getLsbD t)
  | 0, l, b, t, _, _ => by simp [ln]
  | k + 1, l, b, t, hb, ht => by
    have ih := ln_bit z hz k l b t hb ht
    rw [ln]
    by_cases h : l = k / 8
    · rw [if_pos h, BitVec.getLsbD_or, ih, bl_bit z hz k b t hb ht]
      by_cases e : b = k % 8
      · have e2 : 8 * l + b = k := by omega
        rw [e2]
        simp [e]
      · by_cases e3 : 8 * l + b < k
        · simp [e, e3, show 8 * l + b < k + 1 by omega]
        · simp [e, e3, show ¬ 8 * l + b < k + 1 by omega]
    · rw [if_neg h, ih]
      by_cases e3 : 8 * l + b < k
      · simp [e3, show 8 * l + b < k + 1 by omega]
      · simp [e3, show ¬ 8 * l + b < k + 1 by omega]
/-- Two lanes of one set of bytes are one. -/
theorem lane_ext (x y : Lane) (h : ∀ b t, b < 8 → t < 8 → x.getLsbD (8 * b + t) = y.getLsbD (8 * b + t)) : x = y := by
  apply BitVec.eq_of_getLsbD_eq
  intro i hi
  have e : 8 * (i / 8) + i % 8 = i := by omega
  have := h (i / 8) (i % 8) (by omega) (by omega)
  rwa [e] at this
theorem lb_bit (a : Nat → Lane) (l b t : Nat) (hb : b < 8) (ht : t < 8) : (BitVec.ofInt 64 ((by8 a (8 * l + b) : Nat) : Int)).getLsbD t = (a l).getLsbD (8 * b + t) := by
  unfold by8
  have e1 : (8 * l + b) / 8 = l := by omega
  have e2 : (8 * l + b) % 8 = b := by omega
  rw [e1, e2, BitVec.ofInt_natCast, ← BitVec.testBit_toNat, BitVec.toNat_ofNat, Nat.mod_eq_of_lt (show (a l >>> (8 * b)).toNat % 256 < 2 ^ 64 by omega)]
  rw [show (256 : Nat) = 2 ^ 8 by decide, Nat.testBit_mod_two_pow, BitVec.testBit_toNat, BitVec.getLsbD_ushiftRight]
  simp [ht]
theorem xor8 (x y : Int) (hx0 : 0 ≤ x) (hx1 : x < 256) (hy0 : 0 ≤ y) (hy1 : y < 256) : 0 ≤ bits .xor .u8 x y ∧ bits .xor .u8 x y < 256 ∧ ∀ t, (BitVec.ofInt 64 (bits .xor .u8 x y)).getLsbD t = ((BitVec.ofInt 64 x).getLsbD t ^^ (BitVec.ofInt 64 y).getLsbD t) := by
  obtain ⟨m, rfl⟩ := Int.eq_ofNat_of_zero_le hx0
  obtain ⟨n, rfl⟩ := Int.eq_ofNat_of_zero_le hy0
  have hm : m < 2 ^ 8 := by omega
  have hn : n < 2 ^ 8 := by omega
  have hlt : m ^^^ n < 2 ^ 8 := Nat.xor_lt_two_pow hm hn
  have e : bits .xor .u8 (m : Int) (n : Int) = ((m ^^^ n : Nat) : Int) := by
    unfold bits
    show IntKind.u8.wrap (((BitVec.ofInt 8 (m : Int)) ^^^ (BitVec.ofInt 8 (n : Int))).toNat : Int) = _
    rw [BitVec.ofInt_natCast, BitVec.ofInt_natCast, BitVec.toNat_xor, BitVec.toNat_ofNat, BitVec.toNat_ofNat, Nat.mod_eq_of_lt hm, Nat.mod_eq_of_lt hn]
    simp [IntKind.wrap, IntKind.bits, IntKind.signed]
    omega
  rw [e]
  refine ⟨by omega, by omega, fun t => ?_⟩
  rw [BitVec.ofInt_natCast, BitVec.ofInt_natCast, BitVec.ofInt_natCast, ← BitVec.testBit_toNat, ← BitVec.testBit_toNat, ← BitVec.testBit_toNat, BitVec.toNat_ofNat, BitVec.toNat_ofNat, BitVec.toNat_ofNat,
    Nat.mod_eq_of_lt (show m < 2 ^ 64 by omega), Nat.mod_eq_of_lt (show n < 2 ^ 64 by omega), Nat.mod_eq_of_lt (show m ^^^ n < 2 ^ 64 by omega), Nat.testBit_xor]
/-- A state's bytes with those of a block exclusive-ored into the first k. -/
def sxb (a : Nat → Lane) (y : Nat → Int) (k i : Nat) : Int := if i < k then bits .xor .u8 ((by8 a i : Nat) : Int) (y i) else ((by8 a i : Nat) : Int)
theorem by8_B (a : Nat → Lane) (i : Nat) : 0 ≤ ((by8 a i : Nat) : Int) ∧ ((by8 a i : Nat) : Int) < 256 := by
  have : by8 a i < 256 := by unfold by8; omega
  omega
theorem sxb_B (a : Nat → Lane) (y : Nat → Int) (hy : isB y) (k : Nat) : isB (sxb a y k) := fun i => by
  have h := by8_B a i
  unfold sxb
  split
  · have := xor8 _ _ h.1 h.2 (hy i).1 (hy i).2
    exact ⟨this.1, this.2.1⟩
  · exact h
/-- The lanes of such bytes. -/
theorem ln_sxb (a : Nat → Lane) (y : Nat → Int) (hy : isB y) : same (ln (sxb a y 136) 200) (fun l => a l ^^^ ln y 136 l) := by
  intro l hl
  apply lane_ext
  intro b t hb ht
  have hB := by8_B a (8 * l + b)
  rw [ln_bit _ (sxb_B a y hy 136) 200 l b t hb ht, BitVec.getLsbD_xor, ln_bit y hy 136 l b t hb ht, ← lb_bit a l b t hb ht]
  rw [show decide (8 * l + b < 200) = true by simp; omega]
  unfold sxb
  by_cases h : 8 * l + b < 136
  · rw [if_pos h, (xor8 _ _ hB.1 hB.2 (hy _).1 (hy _).2).2.2 t]
    simp [h]
  · rw [if_neg h]
    simp [h]
end Go.Proofs.YtmnakafplpmphabDoor
