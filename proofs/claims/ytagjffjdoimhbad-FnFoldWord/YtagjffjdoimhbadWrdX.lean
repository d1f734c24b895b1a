/- What the program's looks at words, its roots and its fold of two values answer: contracts. Conditions: lists that can be read, numbers of at most 512, elements of the greater field. -/
import Derived.Test.YtagjffjdoimhbadNttZ
import Derived.Test.YtagjffjdoimhbadTabQ
import Derived.Test.YtagjffjdoimhbadElR
import Derived.Test.YtagjffjdoimhbadRegL
namespace Go.Proofs.Ytagjffjdoimhbad
open Go.ChangeShapes Go.WideShapes Go.ChangeAt Go.RowKit
set_option linter.unusedVariables false
set_option maxRecDepth 100000
set_option linter.unusedSimpArgs false

/-- Powers by pairs of numbers. -/
theorem ep_el (x : El) (k : Nat) : Fld.ep x.v k = (El.pwE x k).v := by
  induction k with
  | zero => rfl
  | succ k ih => show Fld.mu (Fld.ep x.v k) x.v = _; rw [ih]; rfl
/-- The root to the (its order less 1) is its inverse. -/
theorem rt_inv {m n : Nat} (hm : m ≤ 9) (hn : n = 2 ^ m) : El.pwE (El.rtE m) (n - 1) = El.inv (El.rtE m) := by
  refine El.inv_of ?_
  have h1 : 1 ≤ n := by rw [hn]; exact Nat.one_le_two_pow
  have e : El.ml (El.pwE (El.rtE m) (n - 1)) (El.rtE m) = El.pwE (El.rtE m) (n - 1 + 1) := rfl
  rw [e, show n - 1 + 1 = n by omega, hn]
  exact (El.rtE_ok (by omega)).all
/-- One half. -/
theorem half_el : (⟨(1065353217, 0), by unfold Fld.Red; omega⟩ : El) = El.inv (El.nb 2) := El.inv_of (El.eq2 (by decide) (by decide))
theorem fpr_way (a b r y : El) : El.ml (El.ad (El.ad a b) (El.ml r (El.ml (El.sb a b) (El.inv y)))) (El.inv (El.nb 2)) = El.fpr a b r y := by
  unfold El.fpr
  rw [El.ad_ml, El.ml_assoc r, El.ml_assoc (El.sb a b), El.ml_comm (El.inv y)]
theorem q9_bits : ∀ m : Nat, m < 513 → 1 ≤ m → (bits .and .i64 (m : Int) ((m : Int) - 1) == 0) = p9 (m : Int) := by decide +kernel

set_option maxHeartbeats 2000000 in
theorem bitsLen64_any {m : Nat} (hm : m ≤ 9) (w : World) : Calls Try.prog 42 #[.int .u64 ((2 ^ m : Nat) : Int)] w fun e w' => e = .returned (.int .i64 ((m : Int) + 1)) ∧ w' = w := by
  rcases (show m = 0 ∨ m = 1 ∨ m = 2 ∨ m = 3 ∨ m = 4 ∨ m = 5 ∨ m = 6 ∨ m = 7 ∨ m = 8 ∨ m = 9 by omega) with rfl | rfl | rfl | rfl | rfl | rfl | rfl | rfl | rfl | rfl
  all_goals
    go_enter Try.func42, Try.ntmps42
    go_wp2
    go_ret
    exact ⟨by kernel_rfl, rfl⟩

set_option maxHeartbeats 2000000 in
theorem bitsLen_any {m : Nat} (hm : m ≤ 9) (q : Int) (HQ : Hid (q = ((2 ^ m : Nat) : Int))) (w : World) : Calls Try.prog 34 #[.int .u64 q] w fun e w' => e = .returned (.int .i64 ((m : Int) + 1)) ∧ w' = w := by
  go_enter Try.func34, Try.ntmps34
  go_wp2_with fail
  rw [HQ.out]
  refine (bitsLen64_any hm _).mono ?_
  rintro e W1 ⟨rfl, rfl⟩
  go_wp2
  go_ret
  exact ⟨rfl, rfl⟩

theorem rootP_any {m : Nat} (hm : m ≤ 9) (k : Int) (hk : k = (m : Int)) (w : World) : Calls Try.prog 33 #[.int .i64 k] w fun e w' => e = .returned (.tuple #[.int .i64 (El.rtE m).v.1, .int .i64 0]) ∧ w' = w :=
  (rootOf_any k w).mono (fun e w' h => ⟨by
    rw [h.1]
    have e1 : rootV k = (El.rtE m).v.1 := by
      unfold rootV
      rw [if_pos (by omega), Fld.pw_sq, show (24 - k).toNat = 24 - m by omega]
      exact (El.ofi_v (Fld.sq_lo _) (Fld.sq_hi _)).symm
    have e2 : rootC k = 0 := by unfold rootC; rw [if_pos (by omega)]
    rw [e1, e2], h.2⟩)

set_option maxHeartbeats 2000000 in
theorem wordRoot_any {m : Nat} (hm : m ≤ 9) (n : Nat) (HN : Hid (n = 2 ^ m)) (w : World) : Calls Try.prog 19 #[.int .i64 (n : Int)] w fun e w' => e = .returned (.agg #[.int .i64 (El.rtE m).v.1, .int .i64 (El.rtE m).v.2]) ∧ Chg nob w w' := by
  have hn5 : n ≤ 512 := by rw [HN.out]; exact pow_le9 hm
  have hv2 : (El.rtE m).v.2 = 0 := rfl
  have HP := hik (fun (k : Int) (hk : k = (m : Int)) (w : World) => rootP_any hm k hk w)
  obtain ⟨R, hR⟩ : ∃ R, R = El.rtE m := ⟨_, rfl⟩
  rw [← hR] at HP hv2 ⊢
  clear hR
  obtain ⟨q, hq⟩ : ∃ q, q = R.v.1 := ⟨_, rfl⟩
  rw [hv2, ← hq]
  rw [← hq] at HP
  clear hq hv2
  obtain ⟨j, hj⟩ : ∃ j : Int, j = (m : Int) + 1 := ⟨_, rfl⟩
  have HJ := hik hj
  have hwr : IntKind.i64.wrap (j - 1) = j - 1 := by rw [IntKind.wrap_i64]; omega
  have hwu : IntKind.u64.wrap (n : Int) = (n : Int) := by rw [IntKind.wrap_u64]; omega
  have HPJ := hik (fun (w : World) => HP.out (j - 1) (by omega) w)
  clear HP hj
  go_enter Try.func19, Try.ntmps19
  go_wp2_with fail
  refine (bitsLen_any hm (n : Int) (hik (by rw [HN.out])) _).mono ?_
  rintro e W1 ⟨rfl, hw⟩
  have hw' := hw.symm
  clear hw
  subst hw'
  rw [← HJ.out]
  go_wp2_with fail
  refine (HPJ.out _).mono ?_
  rintro e W2 ⟨rfl, hw⟩
  have hw' := hw.symm
  clear hw
  subst hw'
  go_wp2
  exact bodyPost_ret (v := .agg #[.int .i64 q, .int .i64 0]) (by simp [results, Try.results19, go_sem]) rfl ⟨rfl, (Chg.refl nob w).alloc _⟩

set_option maxHeartbeats 2000000 in
theorem inverseRoot_any {m : Nat} (hm : m ≤ 9) (n : Nat) (HN : Hid (n = 2 ^ m)) (w : World) : Calls Try.prog 22 #[.int .i64 (n : Int)] w fun e w' => e = .returned (.agg #[.int .i64 (El.inv (El.rtE m)).v.1, .int .i64 (El.inv (El.rtE m)).v.2]) ∧ Chg nob w w' := by
  have hn5 : n ≤ 512 := by rw [HN.out]; exact pow_le9 hm
  have hn1 : 1 ≤ n := by rw [HN.out]; exact Nat.one_le_two_pow
  have HI := hik (rt_inv hm HN.out)
  rw [← HI.out]
  obtain ⟨k, hk⟩ : ∃ k, k = n - 1 := ⟨_, rfl⟩
  rw [← hk]
  have hwr : IntKind.i64.wrap ((n : Int) - 1) = (k : Int) := by rw [IntKind.wrap_i64]; omega
  have hkm : (k : Int) ≤ 9223372036854775807 := by omega
  clear hk
  obtain ⟨R, hR⟩ : ∃ R, R = El.rtE m := ⟨_, rfl⟩
  have HR := hik hR
  rw [← hR]
  clear hR
  go_enter Try.func22, Try.ntmps22
  go_wp2_with fail
  refine (wordRoot_any hm n HN _).mono ?_
  rintro e W1 ⟨he, k1⟩
  rw [← HR.out] at he
  subst he
  have E1 := hik ((ElB.zero w).keep k1)
  have G1 := hik (((Chg.refl nob w).alloc _).trans k1)
  clear k1
  go_wp2_with fail
  refine (power_any R.v.1 R.v.2 k _ R.lo1 R.hi1 R.lo2 R.hi2 hkm).mono ?_
  rintro e W2 ⟨he, k2⟩
  have he' : e = .returned (.agg #[.int .i64 (El.pwE R k).v.1, .int .i64 (El.pwE R k).v.2]) := by rw [he, show (R.v.1, R.v.2) = R.v from rfl, ep_el]
  subst he'
  have E2 := hik (E1.out.keep k2)
  have G2 := hik (G1.out.trans k2)
  clear k2 he
  have c0 : W2.cell? ⟨w.heap.size, 0, none⟩ = some (.int .i64 0) := E2.out.c0
  have c1 : W2.cell? ⟨w.heap.size, 1, none⟩ = some (.int .i64 0) := E2.out.c1
  have f0 := E2.out.fz 0
  have f1 := E2.out.fz 1
  go_wp2
  have u0 := (E2.out.set (El.pwE R k)).c0
  have u1 := (E2.out.set (El.pwE R k)).c1
  exact bodyPost_ret (v := .agg #[.int .i64 (El.pwE R k).v.1, .int .i64 (El.pwE R k).v.2]) (by simp [results, Try.results22, go_sem, u0, u1]) rfl ⟨rfl, chg2_at G2.out w.heap.size (fun l => absurd l (by omega)) 0 1 _ _⟩

set_option maxHeartbeats 1000000 in
theorem pow2I_any (n : Int) (w : World) :
    Calls Try.prog 36 #[.int .i64 n] w fun e w' => e = .returned (.bool (decide (1 ≤ n) && (bits .and .i64 n (IntKind.i64.wrap (n - 1)) == 0))) ∧ w' = w := by
  by_cases h0 : 1 ≤ n
  · obtain ⟨q, hq⟩ : ∃ q, q = IntKind.i64.wrap (n - 1) := ⟨_, rfl⟩
    rw [← hq, decide_eq_true h0, Bool.true_and]
    have hq' := hq.symm
    clear hq
    obtain ⟨b, hb⟩ : ∃ b, b = (bits .and .i64 n q == 0) := ⟨_, rfl⟩
    rw [← hb]
    have hb' := hb.symm
    clear hb
    cases b
    · go_enter Try.func36, Try.ntmps36
      go_wp2
      go_ret
      exact ⟨rfl, rfl⟩
    · go_enter Try.func36, Try.ntmps36
      go_wp2
      go_ret
      exact ⟨rfl, rfl⟩
  · rw [decide_eq_false h0, Bool.false_and]
    go_enter Try.func36, Try.ntmps36
    go_wp2
    go_ret
    exact ⟨rfl, rfl⟩

set_option maxHeartbeats 1000000 in
theorem isWordLength_any (n : Int) (w : World) : Calls Try.prog 26 #[.int .i64 n] w fun e w' => e = .returned (.bool (p9 n)) ∧ w' = w := by
  obtain ⟨b, hb⟩ : ∃ b, b = (decide (1 ≤ n) && (bits .and .i64 n (IntKind.i64.wrap (n - 1)) == 0)) := ⟨_, rfl⟩
  by_cases h1 : n ≤ 512
  · have H := hik (show p9 n = b by
      rw [hb]
      by_cases h0 : 1 ≤ n
      · obtain ⟨m, rfl⟩ : ∃ m : Nat, n = (m : Int) := ⟨n.toNat, by omega⟩
        have v1 : IntKind.i64.wrap ((m : Int) - 1) = (m : Int) - 1 := by rw [IntKind.wrap_i64]; omega
        rw [v1, q9_bits m (by omega) (by omega), decide_eq_true h0, Bool.true_and]
      · rw [p9_low (by omega), decide_eq_false h0, Bool.false_and])
    rw [H.out]
    have HB := hik hb
    clear hb
    cases b
    · go_enter Try.func26, Try.ntmps26
      go_wp2_with (go_at_call 36; refine (pow2I_any n _).mono ?_; rintro e W1 ⟨he, rfl⟩; rw [← HB.out] at he; subst he)
      go_ret
      exact ⟨rfl, rfl⟩
    · go_enter Try.func26, Try.ntmps26
      go_wp2_with (go_at_call 36; refine (pow2I_any n _).mono ?_; rintro e W1 ⟨he, rfl⟩; rw [← HB.out] at he; subst he)
      go_ret
      exact ⟨rfl, rfl⟩
  · have H := hik (p9_high (show 512 < n by omega))
    rw [H.out]
    have HB := hik hb
    clear hb
    cases b
    · go_enter Try.func26, Try.ntmps26
      go_wp2_with (go_at_call 36; refine (pow2I_any n _).mono ?_; rintro e W1 ⟨he, rfl⟩; rw [← HB.out] at he; subst he)
      go_ret
      exact ⟨rfl, rfl⟩
    · go_enter Try.func26, Try.ntmps26
      go_wp2_with (go_at_call 36; refine (pow2I_any n _).mono ?_; rintro e W1 ⟨he, rfl⟩; rw [← HB.out] at he; subst he)
      go_ret
      exact ⟨ret_of (congrArg Value.bool (decide_eq_false (by omega))), rfl⟩

/-- A rate of a word. -/
def rtb (rate : Int) : Bool := decide (0 ≤ rate ∧ rate ≤ 9)

set_option maxHeartbeats 1000000 in
theorem isWordRate_any (rate : Int) (w : World) : Calls Try.prog 17 #[.int .i64 rate] w fun e w' => e = .returned (.bool (rtb rate)) ∧ w' = w := by
  by_cases h0 : 0 ≤ rate
  · by_cases h9 : rate ≤ 9
    · have H := hik (show rtb rate = true from decide_eq_true ⟨h0, h9⟩)
      rw [H.out]
      go_enter Try.func17, Try.ntmps17
      go_wp2
      go_ret
      exact ⟨rfl, rfl⟩
    · have H := hik (show rtb rate = false from decide_eq_false (fun h => h9 h.2))
      rw [H.out]
      go_enter Try.func17, Try.ntmps17
      go_wp2
      go_ret
      exact ⟨rfl, rfl⟩
  · have H := hik (show rtb rate = false from decide_eq_false (fun h => h0 h.1))
    rw [H.out]
    go_enter Try.func17, Try.ntmps17
    go_wp2
    go_ret
    exact ⟨rfl, rfl⟩

set_option maxHeartbeats 1000000 in
theorem wordCode_any (c : Option Addr) (n cap : Nat) (f g : Nat → Int) (w : World) (h : Hid (PairV w c n f g)) (hn : n ≤ 1099511627776) :
    Calls Try.prog 16 #[.slice c n cap] w fun e w' => e = .returned (.int .i64 (akc7 f g n)) ∧ Chg nob w w' := by
  by_cases hl : 4096 < n
  · have hl' : 4096 < (n : Int) := by omega
    have HT := hik (show akc7 f g n = 2 by unfold akc7; rw [if_pos hl])
    rw [HT.out]
    go_enter Try.func16, Try.ntmps16
    go_wp2
    go_ret
    exact ⟨rfl, Chg.refl _ _⟩
  have hl' : ¬ 4096 < (n : Int) := by omega
  cases ho : okP f g n
  · have HT := hik (show akc7 f g n = 1 by unfold akc7; rw [if_neg hl, ho]; rfl)
    rw [HT.out]
    go_enter Try.func16, Try.ntmps16
    go_wp2_with fail
    refine (extsOK_any c n cap f g _ h hn).mono ?_
    rintro e W1 ⟨he, k1⟩
    rw [ho] at he
    subst he
    go_wp2
    go_ret
    exact ⟨rfl, k1⟩
  cases hp : p9 (n : Int)
  · have HT := hik (show akc7 f g n = 8 by unfold akc7; rw [if_neg hl, ho, hp]; rfl)
    rw [HT.out]
    go_enter Try.func16, Try.ntmps16
    go_wp2_with fail
    refine (extsOK_any c n cap f g _ h hn).mono ?_
    rintro e W1 ⟨he, k1⟩
    rw [ho] at he
    subst he
    go_wp2_with fail
    refine (isWordLength_any (n : Int) _).mono ?_
    rintro e W2 ⟨he, hw⟩
    rw [hp] at he
    subst he
    have hw' := hw.symm
    clear hw
    subst hw'
    go_wp2
    go_ret
    exact ⟨rfl, k1⟩
  · have HT := hik (show akc7 f g n = 0 by unfold akc7; rw [if_neg hl, ho, hp]; rfl)
    rw [HT.out]
    go_enter Try.func16, Try.ntmps16
    go_wp2_with fail
    refine (extsOK_any c n cap f g _ h hn).mono ?_
    rintro e W1 ⟨he, k1⟩
    rw [ho] at he
    subst he
    go_wp2_with fail
    refine (isWordLength_any (n : Int) _).mono ?_
    rintro e W2 ⟨he, hw⟩
    rw [hp] at he
    subst he
    have hw' := hw.symm
    clear hw
    subst hw'
    go_wp2
    go_ret
    exact ⟨rfl, k1⟩

end Go.Proofs.Ytagjffjdoimhbad
