/- Several texts in one: Bits of places, plain: what the language's 'and' and 'xor' of a place and a power of two come to; a table on the way to its coefficients. No program is named here. · What the looks at tables and at points answer, of the program and of the model: contracts. Conditions: rows that can be read, lengths of at most 2 to the 40. -/
import Derived.Test.YtnpmhfhgnnhclarDoorBzan
import Derived.Test.YtnpmhfhgnnhclarDoorBzak
namespace Go.Proofs.YtnpmhfhgnnhclarDoor
set_option linter.unusedVariables false
set_option linter.unusedSimpArgs false

theorem pow_le6 {n : Nat} (h : n ≤ 6) : 2 ^ n ≤ 64 := Nat.le_trans (Nat.pow_le_pow_right (by omega) h) (by decide)
def andOK (i j : Nat) : Bool := bits .and .i64 (i : Int) ((2 ^ j : Nat) : Int) == (if i.testBit j then ((2 ^ j : Nat) : Int) else 0)
def xorOK (i j : Nat) : Bool := bits .xor .i64 (i : Int) ((2 ^ j : Nat) : Int) == ((i ^^^ 2 ^ j : Nat) : Int)
theorem andOK_all : ((List.range 64).all fun i => (List.range 6).all fun j => andOK i j) = true := by kernel_rfl
theorem xorOK_all : ((List.range 64).all fun i => (List.range 6).all fun j => xorOK i j) = true := by kernel_rfl
theorem andOK_at {i j : Nat} (hi : i < 64) (hj : j < 6) : andOK i j = true := by
  have h := List.all_eq_true.1 andOK_all i (List.mem_range.2 hi)
  exact List.all_eq_true.1 h j (List.mem_range.2 hj)
theorem xorOK_at {i j : Nat} (hi : i < 64) (hj : j < 6) : xorOK i j = true := by
  have h := List.all_eq_true.1 xorOK_all i (List.mem_range.2 hi)
  exact List.all_eq_true.1 h j (List.mem_range.2 hj)
theorem and_bit0 {i j : Nat} (hi : i < 64) (hj : j < 6) (h : i.testBit j = false) : bits .and .i64 (i : Int) ((2 ^ j : Nat) : Int) = 0 := by
  have e := andOK_at hi hj
  unfold andOK at e
  rw [h] at e
  simpa using e
theorem and_bit1 {i j : Nat} (hi : i < 64) (hj : j < 6) (h : i.testBit j = true) : bits .and .i64 (i : Int) ((2 ^ j : Nat) : Int) = ((2 ^ j : Nat) : Int) := by
  have e := andOK_at hi hj
  unfold andOK at e
  rw [h] at e
  exact eq_of_beq e
theorem xor_bit {i j : Nat} (hi : i < 64) (hj : j < 6) : bits .xor .i64 (i : Int) ((2 ^ j : Nat) : Int) = ((i ^^^ 2 ^ j : Nat) : Int) := eq_of_beq (xorOK_at hi hj)
theorem bit_le {k j : Nat} (h : k.testBit j = true) : 2 ^ j ≤ k := Nat.ge_two_pow_of_testBit h
def subOK (i j : Nat) : Bool := !i.testBit j || (i ^^^ 2 ^ j == i - 2 ^ j)
theorem subOK_all : ((List.range 64).all fun i => (List.range 6).all fun j => subOK i j) = true := by kernel_rfl
theorem flip_sub {k j : Nat} (hk : k < 64) (hj : j < 6) (h : k.testBit j = true) : k ^^^ 2 ^ j = k - 2 ^ j := by
  have e := List.all_eq_true.1 (List.all_eq_true.1 subOK_all k (List.mem_range.2 hk)) j (List.mem_range.2 hj)
  unfold subOK at e
  rw [h] at e
  simpa using e
/-- A pass half done: the first k places. -/
def stK (back : Bool) (j : Nat) (t : Nat → El) (k i : Nat) : El := if i < k then El.stp back j t i else t i
theorem stp_flip (back : Bool) (t : Nat → El) {k j : Nat} (h : k.testBit j = true) : El.stp back j t (k ^^^ 2 ^ j) = t (k ^^^ 2 ^ j) := by
  unfold El.stp
  rw [El.flip_at, h]
  rfl
theorem stK_skip (back : Bool) {t : Nat → El} {k j : Nat} (h : k.testBit j = false) (i : Nat) : stK back j t k i = stK back j t (k + 1) i := by
  unfold stK
  by_cases e : i = k
  · subst e
    rw [if_neg (by omega), if_pos (by omega), El.stp, h]
    rfl
  · by_cases h2 : i < k
    · rw [if_pos h2, if_pos (by omega)]
    · rw [if_neg h2, if_neg (by omega)]
theorem stK_step (back : Bool) (t : Nat → El) {k j : Nat} (h : k.testBit j = true) (i : Nat) : upE (stK back j t k) k (if back then El.ad (t k) (t (k ^^^ 2 ^ j)) else El.sb (t k) (t (k ^^^ 2 ^ j))) i = stK back j t (k + 1) i := by
  unfold upE stK
  by_cases e : i = k
  · subst e
    rw [if_pos rfl, if_pos (Nat.lt_succ_self i), El.stp, h]
    rfl
  · rw [if_neg e]
    by_cases h2 : i < k
    · rw [if_pos h2, if_pos (by omega)]
    · rw [if_neg h2, if_neg (by omega)]
theorem stK_all (back : Bool) {t T : Nat → El} {n j N i : Nat} (hT : ∀ i, i < 2 ^ n → T i = El.cfs back t j i) (hj : j < n) (hi : i < 2 ^ n) (hN : 2 ^ n = N) : stK back j T N i = El.cfs back t (j + 1) i := by
  unfold stK
  rw [if_pos (by omega), El.cfs, El.stp, El.stp, hT i hi, hT _ (El.flip_lt hi hj)]

end Go.Proofs.YtnpmhfhgnnhclarDoor

namespace Go.Proofs.YtnpmhfhgnnhclarDoor
open Go.ChangeShapes Go.WideShapes Go.ChangeAt Go.RowKit
set_option linter.unusedVariables false
set_option maxRecDepth 100000
set_option linter.unusedSimpArgs false

/-- 1, 2, 4 to 64. -/
def p6 (n : Nat) : Bool := (List.range 7).any fun j => decide (n = 2 ^ j)
theorem p6_yes {n j : Nat} (hj : j ≤ 6) (h : n = 2 ^ j) : p6 n = true := by
  unfold p6
  rw [List.any_eq_true]
  exact ⟨j, by simp; omega, by simpa using h⟩
theorem p6_no {n : Nat} (h : ∀ j, j < 7 → ¬ n = 2 ^ j) : p6 n = false := by
  unfold p6
  rw [List.any_eq_false]
  intro j hj
  simp at hj
  simpa using h j hj
theorem p6_ex {n : Nat} (h : p6 n = true) : ∃ j, j ≤ 6 ∧ n = 2 ^ j := by
  unfold p6 at h
  rw [List.any_eq_true] at h
  obtain ⟨j, hj, hn⟩ := h
  simp at hj
  exact ⟨j, by omega, by simpa using hn⟩
theorem p6_high {n : Nat} (h : 64 < n) : p6 n = false := by
  cases hp : p6 n
  · rfl
  · obtain ⟨j, hj, hn⟩ := p6_ex hp
    have := pow_le6 hj
    omega
theorem p6_bits : ∀ m : Nat, m < 65 → 1 ≤ m → (bits .and .i64 (m : Int) ((m : Int) - 1) == 0) = p6 m := by decide +kernel
/-- What the program's look at powers of two answers. -/
def q2 (n : Nat) : Bool := decide (1 ≤ n) && (bits .and .i64 (n : Int) ((n : Int) - 1) == 0)
theorem q2_p6 {n : Nat} (h : n ≤ 64) : q2 n = p6 n := by
  unfold q2
  by_cases h0 : 1 ≤ n
  · rw [p6_bits n (by omega) h0, decide_eq_true h0]; rfl
  · obtain rfl : n = 0 := by omega
    rfl
/-- A right table. -/
def tok (f g : Nat → Int) (n : Nat) : Bool := p6 n && okP f g n
theorem tok_p6 {f g : Nat → Int} {n : Nat} (h : tok f g n = true) : p6 n = true ∧ okP f g n = true := by unfold tok at h; simpa using h

set_option maxHeartbeats 1000000 in
theorem isPow_any (n : Nat) (w : World) (hn : n ≤ 1099511627776) : Calls Tryd.prog 28 #[.int .i64 (n : Int)] w fun e w' => e = .returned (.bool (q2 n)) ∧ w' = w := by
  by_cases h0 : 1 ≤ n
  · have h1 : 1 ≤ (n : Int) := by omega
    obtain ⟨b, hb⟩ : ∃ b, b = (bits .and .i64 (n : Int) ((n : Int) - 1) == 0) := ⟨_, rfl⟩
    have HQ := hik (show q2 n = b by unfold q2; rw [decide_eq_true h0, ← hb]; rfl)
    have v1 : IntKind.i64.wrap ((n : Int) - 1) = (n : Int) - 1 := by rw [IntKind.wrap_i64]; omega
    have hb' := hb.symm
    clear hb
    rw [HQ.out]
    cases b
    · go_enter Tryd.func28, Tryd.ntmps28
      go_wp2
      go_ret
      exact ⟨rfl, rfl⟩
    · go_enter Tryd.func28, Tryd.ntmps28
      go_wp2
      go_ret
      exact ⟨rfl, rfl⟩
  · obtain rfl : n = 0 := by omega
    go_enter Tryd.func28, Tryd.ntmps28
    go_wp2
    go_ret
    exact ⟨rfl, rfl⟩

set_option maxHeartbeats 1000000 in
theorem tableOK_any (c : Option Addr) (n cap : Nat) (f g : Nat → Int) (w : World) (h : Hid (PairV w c n f g)) (hn : n ≤ 1099511627776) :
    Calls Tryd.prog 16 #[.slice c n cap] w fun e w' => e = .returned (.bool (tok f g n)) ∧ Chg nob w w' := by
  by_cases h64 : n ≤ 64
  · have e64 : (n : Int) ≤ 64 := by omega
    have hq := q2_p6 h64
    cases hp : p6 n
    · have HT := hik (show tok f g n = false by unfold tok; rw [hp]; rfl)
      rw [hp] at hq
      go_enter Tryd.func16, Tryd.ntmps16
      go_wp2_with (go_at_call 28; refine (isPow_any n _ hn).mono ?_; rintro e W1 ⟨he, rfl⟩; rw [hq] at he; subst he)
      go_ret
      exact ⟨by rw [HT.out]; rfl, Chg.refl _ _⟩
    · have HT := hik (show tok f g n = okP f g n by unfold tok; rw [hp]; rfl)
      rw [hp] at hq
      go_enter Tryd.func16, Tryd.ntmps16
      go_wp2_with (first | (go_at_call 28; refine (isPow_any n _ hn).mono ?_; rintro e W1 ⟨he, rfl⟩; rw [hq] at he; subst he) | (go_at_call 29; refine (extsOK_any c n cap f g _ h hn).mono ?_; rintro e W2 ⟨rfl, k2⟩; have K2 := hik k2; clear k2))
      go_ret
      exact ⟨by rw [HT.out]; rfl, K2.out⟩
  · have HT := hik (show tok f g n = false by unfold tok; rw [p6_high (by omega)]; rfl)
    have e64 : ¬ (n : Int) ≤ 64 := by omega
    cases hq : q2 n
    · go_enter Tryd.func16, Tryd.ntmps16
      go_wp2_with (go_at_call 28; refine (isPow_any n _ hn).mono ?_; rintro e W1 ⟨he, rfl⟩; rw [hq] at he; subst he)
      go_ret
      exact ⟨by rw [HT.out]; rfl, Chg.refl _ _⟩
    · go_enter Tryd.func16, Tryd.ntmps16
      go_wp2_with (go_at_call 28; refine (isPow_any n _ hn).mono ?_; rintro e W1 ⟨he, rfl⟩; rw [hq] at he; subst he)
      go_ret
      exact ⟨by rw [HT.out]; rfl, Chg.refl _ _⟩

set_option maxHeartbeats 1000000 in
theorem sPow6_any (n : Nat) (w : World) : Calls Tryd.prog 23 #[.int .i64 (n : Int), .int .i64 64] w fun e w' => e = .returned (.bool (p6 n)) ∧ w' = w := by
  go_enter Tryd.func23, Tryd.ntmps23
  go_wp2
  go_loop [5] (fun v => ∃ j q : Nat, j ≤ 7 ∧ v = .int .i64 (q : Int) ∧ Hid (q = 2 ^ j) ∧ Hid (∀ i, i < j → ¬ n = 2 ^ i)) (fun v => 600 - (intOf v).toNat)
  case atStart => exact ⟨0, 1, by omega, rfl, hik rfl, hik (fun i hi => absurd hi (by omega))⟩
  case round =>
    obtain ⟨j, q, hj, rfl, HQ, HN⟩ := hrel
    by_cases hjt : j ≤ 6
    · have q1 : q ≤ 64 := by have := pow_le6 hjt; have := HQ.out; omega
      have q0 : 1 ≤ q := by rw [HQ.out]; exact Nat.one_le_two_pow
      have q1' : (q : Int) ≤ 64 := by omega
      by_cases hn : n = q
      · have HP := hik (p6_yes (n := n) hjt (by rw [hn, HQ.out]))
        have hb : ((n : Int) == (q : Int)) = true := by rw [hn]; simp
        have HNN := hik hn
        clear hn
        go_wp2
        go_ret
        exact ⟨ret_of (congrArg Value.bool HP.out.symm), rfl⟩
      · have hb : ((n : Int) == (q : Int)) = false := by
          have : ¬ (n : Int) = (q : Int) := by omega
          simpa using this
        go_wp2
        go_round
        case rel => exact ⟨j + 1, q * 2, by omega, by go_num, hik (by rw [Nat.pow_succ, HQ.out]), hik (fun i hi => by
          by_cases e : i = j
          · subst e; rw [← HQ.out]; exact hn
          · exact HN.out i (by omega))⟩
        case measure => simp [intOf]; omega
    · obtain rfl : j = 7 := by omega
      have hq : q = 128 := HQ.out
      subst hq
      have HP := hik (p6_no (n := n) HN.out)
      go_wp2
      go_ret
      exact ⟨ret_of (congrArg Value.bool HP.out.symm), rfl⟩

set_option maxHeartbeats 1000000 in
theorem sTab_any (n : Nat) (w : World) : Calls Tryd.prog 21 #[.int .i64 (n : Int)] w fun e w' => e = .returned (.bool (p6 n)) ∧ w' = w := by
  go_enter Tryd.func21, Tryd.ntmps21
  go_wp2_with fail
  refine (sPow6_any n _).mono ?_
  rintro e W1 ⟨rfl, rfl⟩
  go_wp2
  go_ret
  exact ⟨rfl, rfl⟩

set_option maxHeartbeats 1000000 in
theorem sTableOK_any (c : Option Addr) (n cap : Nat) (f g : Nat → Int) (w : World) (h : Hid (PairV w c n f g)) (hn : n ≤ 1099511627776) :
    Calls Tryd.prog 9 #[.slice c n cap] w fun e w' => e = .returned (.bool (tok f g n)) ∧ Chg nob w w' := by
  by_cases hl : 4096 < n
  · have hl' : 4096 < (n : Int) := by omega
    have HT := hik (show tok f g n = false by unfold tok; rw [p6_high (by omega)]; rfl)
    go_enter Tryd.func9, Tryd.ntmps9
    go_wp2
    go_ret
    exact ⟨by rw [HT.out]; rfl, Chg.refl _ _⟩
  · have hl' : ¬ 4096 < (n : Int) := by omega
    cases hp : p6 n
    · have HT := hik (show tok f g n = false by unfold tok; rw [hp]; rfl)
      go_enter Tryd.func9, Tryd.ntmps9
      go_wp2_with (go_at_call 21; refine (sTab_any n _).mono ?_; rintro e W1 ⟨he, rfl⟩; rw [hp] at he; subst he)
      go_ret
      exact ⟨by rw [HT.out]; rfl, Chg.refl _ _⟩
    · have HT := hik (show tok f g n = okP f g n by unfold tok; rw [hp]; rfl)
      go_enter Tryd.func9, Tryd.ntmps9
      go_wp2_with (first | (go_at_call 21; refine (sTab_any n _).mono ?_; rintro e W1 ⟨he, rfl⟩; rw [hp] at he; subst he) | (go_at_call 22; refine (l02List_any c n cap f g _ h hn).mono ?_; rintro e W2 ⟨rfl, k2⟩; have K2 := hik k2; clear k2))
      go_ret
      exact ⟨by rw [HT.out]; rfl, K2.out⟩


end Go.Proofs.YtnpmhfhgnnhclarDoor
