/- Padded messages, blocks and what the hash is: plain functions. No program is named here. -/
import Derived.Test.YtkpohajmcngjcaaDoorKecM
namespace Go.Proofs.YtkpohajmcngjcaaDoor

/-- Numbers that are bytes. -/
def isB (z : Nat → Int) : Prop := ∀ i, 0 ≤ z i ∧ z i < 256
theorem bl_lt (z : Nat → Int) (hz : isB z) (k : Nat) : (bl z k).toNat < 2 ^ (8 * (k % 8) + 8) := by
  obtain ⟨n, hn⟩ := Int.eq_ofNat_of_zero_le (hz k).1
  have h1 := (hz k).2
  unfold bl
  rw [hn, BitVec.ofInt_natCast, BitVec.toNat_shiftLeft, BitVec.toNat_ofNat, Nat.shiftLeft_eq]
  have h2 : n % 2 ^ 64 ≤ n := Nat.mod_le _ _
  have h3 : n < 2 ^ 8 := by omega
  refine Nat.lt_of_le_of_lt (Nat.mod_le _ _) ?_
  rw [Nat.pow_add, Nat.mul_comm]
  exact Nat.mul_lt_mul_of_pos_left (Nat.lt_of_le_of_lt h2 h3) (Nat.two_pow_pos _)
theorem ln_lo (z : Nat → Int) (hz : isB z) : ∀ k j, (k / 8 < j → ln z k j = 0) ∧ (j = k / 8 → (ln z k j).toNat < 2 ^ (8 * (k % 8)))
  | 0, j => ⟨fun _ => rfl, fun _ => by simp [ln]⟩
  | k + 1, j => by
    obtain ⟨h1, h2⟩ := ln_lo z hz k j
    rw [ln]
    refine ⟨fun h => ?_, fun h => ?_⟩
    · rw [if_neg (by omega)]
      exact h1 (by omega)
    · by_cases h8 : (k + 1) % 8 = 0
      · rw [if_neg (by omega), h1 (by omega), h8]
        simp
      · rw [if_pos (by omega), BitVec.toNat_or]
        have e : 8 * ((k + 1) % 8) = 8 * (k % 8) + 8 := by omega
        rw [e]
        refine Nat.or_lt_two_pow (Nat.lt_of_lt_of_le (h2 (by omega)) (Nat.pow_le_pow_right (by decide) (by omega))) (bl_lt z hz k)
theorem or_xor (x y : Lane) (m : Nat) (hx : x.toNat < 2 ^ m) (hy : ∀ i, i < m → y.getLsbD i = false) : x ||| y = x ^^^ y := by
  apply BitVec.eq_of_getLsbD_eq
  intro i hi
  rw [BitVec.getLsbD_or, BitVec.getLsbD_xor]
  by_cases h : i < m
  · rw [hy i h]; simp
  · have : x.getLsbD i = false := by
      rw [← BitVec.testBit_toNat]
      exact Nat.testBit_lt_two_pow (Nat.lt_of_lt_of_le hx (Nat.pow_le_pow_right (by decide) (by omega)))
    rw [this]; simp
theorem bl_low (z : Nat → Int) (k i : Nat) (h : i < 8 * (k % 8)) : (bl z k).getLsbD i = false := by
  unfold bl
  rw [BitVec.getLsbD_shiftLeft]
  simp [h]
/-- A text is taken in lane by lane. -/
theorem tk_ln (a : Nat → Lane) (z : Nat → Int) (hz : isB z) : ∀ k j, tk a z k j = a j ^^^ ln z k j
  | 0, j => by simp [tk, ln]
  | k + 1, j => by
    rw [tk, ln]
    by_cases h : j = k / 8
    · rw [if_pos h, if_pos h, tk_ln a z hz k j, or_xor _ _ (8 * (k % 8)) ((ln_lo z hz k j).2 h) (fun i hi => bl_low z k i hi), BitVec.xor_assoc]
    · rw [if_neg h, if_neg h, tk_ln a z hz k j]
theorem ln_congr {y z : Nat → Int} : ∀ {k : Nat}, (∀ i, i < k → y i = z i) → ∀ j, ln y k j = ln z k j
  | 0, _, _ => rfl
  | k + 1, h, j => by
    have e : bl y k = bl z k := by unfold bl; rw [h k (by omega)]
    rw [ln, ln, ln_congr (fun i hi => h i (by omega)) j, e]
theorem tk_congr {y z : Nat → Int} (a : Nat → Lane) : ∀ {k : Nat}, (∀ i, i < k → y i = z i) → ∀ j, tk a y k j = tk a z k j
  | 0, _, _ => rfl
  | k + 1, h, j => by
    have e : bl y k = bl z k := by unfold bl; rw [h k (by omega)]
    rw [tk, tk, tk_congr a (fun i hi => h i (by omega)) j, e]

/-- The message with a byte 1 behind it, and noughts. -/
def pz (z : Nat → Int) (n i : Nat) : Int := if i < n then z i else if i = n then 1 else 0
/-- How many bytes that makes. -/
def pn (n : Nat) : Nat := (n / 136 + 1) * 136
/-- The same with the last byte's highest bit set. -/
def pd (z : Nat → Int) (n i : Nat) : Int := if i = pn n - 1 then pz z n i + 128 else pz z n i
theorem pn_gt (n : Nat) : n < pn n := by unfold pn; omega
theorem pn_le (n : Nat) : pn n ≤ n + 136 := by unfold pn; omega
theorem pz_B (z : Nat → Int) (n : Nat) (hz : isB z) : isB (pz z n) := fun i => by
  unfold pz
  split
  · exact hz i
  · split <;> omega
theorem pz_end (z : Nat → Int) (n i : Nat) (h : n ≤ i) : 0 ≤ pz z n i ∧ pz z n i ≤ 1 := by
  unfold pz
  rw [if_neg (by omega)]
  split <;> omega
theorem pd_B (z : Nat → Int) (n : Nat) (hz : isB z) : isB (pd z n) := fun i => by
  unfold pd
  split
  · rename_i h
    have h1 := pn_gt n
    have h2 := pz_end z n i (by omega)
    omega
  · exact pz_B z n hz i
/-- Block j of a padded message. -/
def blk (P : Nat → Int) (j i : Nat) : Int := P (136 * j + i)
theorem blk_B (P : Nat → Int) (h : isB P) (j : Nat) : isB (blk P j) := fun _ => h _
/-- The state behind j blocks. -/
def hst (P : Nat → Int) : Nat → Nat → Lane
  | 0 => fun _ => 0
  | j + 1 => prm (fun l => hst P j l ^^^ ln (blk P j) 136 l) 24
theorem hst_take (P : Nat → Int) (hP : isB P) (j : Nat) (y : Nat → Int) (hy : ∀ i, i < 136 → y i = blk P j i) : same (prm (tk (hst P j) y 136) 24) (hst P (j + 1)) := by
  show same _ (prm (fun l => hst P j l ^^^ ln (blk P j) 136 l) 24)
  apply prm_same
  intro i _
  rw [tk_congr (hst P j) hy i, tk_ln _ _ (blk_B P hP j)]

end Go.Proofs.YtkpohajmcngjcaaDoor
