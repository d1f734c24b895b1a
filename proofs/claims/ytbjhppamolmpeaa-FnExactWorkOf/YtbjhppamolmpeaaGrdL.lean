/- Whether a list of entries is a matrix: the model's contract. -/
import Derived.Test.YtbjhppamolmpeaaBzag
import Derived.Deep.QuietTactic
import Derived.BigQuiet
import Derived.Deep.RegionHeld3
import Derived.Deep.DeepCutAuto
namespace Go.Proofs.Ytbjhppamolmpeaa
open Go.ChangeShapes Go.WideShapes Go.ChangeAt Go.RowKit
set_option linter.unusedVariables false
set_option maxRecDepth 100000
set_option linter.unusedSimpArgs false

theorem win_in {r q : Nat} (hr : r ≤ 5) (hq : q ≤ 5) (x1 x2 x3 : Int) : win (2 ^ r) (2 ^ q) (x1, x2, x3) = (inW x1 0 (wrap64 (wrap64 (2 ^ r) - 1)) && inW x2 0 (wrap64 (wrap64 (2 ^ q) - 1)) && inW x3 1 2130706432) := by
  have e : ∀ r : Nat, r ≤ 5 → wrap64 (wrap64 (2 ^ r) - 1) = 2 ^ r - 1 := by
    intro r hr
    rcases (show r = 0 ∨ r = 1 ∨ r = 2 ∨ r = 3 ∨ r = 4 ∨ r = 5 by omega) with rfl | rfl | rfl | rfl | rfl | rfl <;> kernel_rfl
  rw [e r hr, e q hq]
  generalize (2 : Int) ^ r = R
  generalize (2 : Int) ^ q = C
  simp only [win, inW]
  rw [Bool.eq_iff_iff]
  simp
  omega
/-- What stands ahead of the k-th one is less. -/
def prE (X : Nat → En) (k : Nat) : Bool := decide (k = 0) || enlt (X (k - 1)) (X k)
/-- The first k are right. -/
def okE (R C : Int) (X : Nat → En) (k : Nat) : Prop := ∀ i, i < k → win R C (X i) = true ∧ prE X i = true
theorem okE_elm {R C : Int} {X : Nat → En} {n : Nat} (hn : n ≤ 200) (h : okE R C X n) : elm R C n X = true := by
  have h1 : ((List.range n).all fun i => win R C (X i)) = true := by
    rw [List.all_eq_true]
    intro i hi
    exact (h i (by simpa using hi)).1
  have h2 : rsg n X = true := by
    rw [rsg_iff]
    intro i hi
    have := (h (i + 1) hi).2
    simpa [prE] using this
  simp [elm, h1, h2, hn]
theorem elm_no {R C : Int} {X : Nat → En} {n k : Nat} (hk : k < n) (h : win R C (X k) = false ∨ prE X k = false) : elm R C n X = false := by
  rcases h with h | h
  · have : ((List.range n).all fun i => win R C (X i)) = false := by
      rw [List.all_eq_false]
      exact ⟨k, by simpa using hk, by rw [h]; simp⟩
    simp [elm, this]
  · have hk0 : k ≠ 0 := by intro e; subst e; simp [prE] at h
    have : rsg n X = false := by
      cases hr : rsg n X with
      | false => rfl
      | true =>
        have := rsg_iff.1 hr (k - 1) (by omega)
        rw [show k - 1 + 1 = k by omega] at this
        simp [prE, this] at h
    simp [elm, this]

set_option maxHeartbeats 4000000 in
theorem sList_any (c : Option Addr) (n cap : Nat) (X : Nat → En) (r q : Nat) (hr : r ≤ 5) (hq : q ≤ 5) (w : World) (hv : Hid (EntV w c n X)) (hn : n ≤ 1099511627776) :
    Calls Try.prog 49 #[.slice c n cap, .int .i64 r, .int .i64 q] w fun e w' => e = .returned (.bool (elm (2 ^ r) (2 ^ q) n X)) ∧ Chg nob w w' := by
  by_cases h2 : 200 < n
  · have hz : elm (2 ^ r) (2 ^ q) n X = false := by simp [elm, show ¬ n ≤ 200 by omega]
    have h3 : (200 : Int) < n := by omega
    rw [hz]
    go_enter Try.func49, Try.ntmps49
    go_wp2
    go_ret
    exact ⟨rfl, Chg.refl _ _⟩
  have h3 : ¬ (200 : Int) < n := by omega
  go_enter Try.func49, Try.ntmps49
  go_wp2
  go_loopw [7] (fun s wr => ∃ k : Nat, k ≤ n ∧ s = .int .i64 k ∧ Hid (okE (2 ^ r) (2 ^ q) X k) ∧ Hid (Chg nob w wr)) (fun s _ => n - (intOf s).toNat)
  case atStart => exact ⟨0, Nat.zero_le _, rfl, hik (fun i hi => by omega), hik (Chg.refl _ _)⟩
  case round =>
    obtain ⟨k, hk, rfl, HW, KW⟩ := hrel
    by_cases hlt : k < n
    · have VW := hik (hv.out.keep KW.out)
      obtain ⟨xb, xo, rfl, hxb, c0, c1, c2⟩ := VW.out k hlt
      have hkn : ((k : Nat) : Int) < n := by omega
      have HXb := hik hxb
      generalize hxx : X k = x at c0 c1 c2
      have HE := hik hxx
      clear hxx
      obtain ⟨x1, x2, x3⟩ := x
      have KA := hik (KW.out.alloc (.cells #[.int .i64 x1, .int .i64 x2, .int .i64 x3] 69))
      cases hA : inW x1 0 (wrap64 (wrap64 (2 ^ r) - 1)) with
      | false =>
        have HF := hik (elm_no (R := 2 ^ r) (C := 2 ^ q) (X := X) hlt (.inl (by rw [HE.out, win_in hr hq, hA]; rfl)))
        go_wp2_with (go_at_call 29; refine (l01In_any _ _ _ _).mono ?_; rintro e W2 ⟨rfl, hw⟩; have hw := hw.symm; subst hw)
        go_ret
        exact ⟨ret_bool HF.out.symm, KA.out⟩
      | true =>
      cases hB : inW x2 0 (wrap64 (wrap64 (2 ^ q) - 1)) with
      | false =>
        have HF := hik (elm_no (R := 2 ^ r) (C := 2 ^ q) (X := X) hlt (.inl (by rw [HE.out, win_in hr hq, hB]; simp)))
        go_wp2_with (go_at_call 29; refine (l01In_any _ _ _ _).mono ?_; rintro e W2 ⟨rfl, hw⟩; have hw := hw.symm; subst hw)
        go_ret
        exact ⟨ret_bool HF.out.symm, KA.out⟩
      | true =>
      cases hC : inW x3 1 2130706432 with
      | false =>
        have HF := hik (elm_no (R := 2 ^ r) (C := 2 ^ q) (X := X) hlt (.inl (by rw [HE.out, win_in hr hq, hC]; simp)))
        go_wp2_with (go_at_call 29; refine (l01In_any _ _ _ _).mono ?_; rintro e W2 ⟨rfl, hw⟩; have hw := hw.symm; subst hw)
        go_ret
        exact ⟨ret_bool HF.out.symm, KA.out⟩
      | true =>
      have HT := hik (show win (2 ^ r) (2 ^ q) (X k) = true by rw [HE.out, win_in hr hq, hA, hB, hC]; rfl)
      go_upto_region 9 with (go_at_call 29; refine (l01In_any _ _ _ _).mono ?_; rintro e W2 ⟨rfl, hw⟩; have hw := hw.symm; subst hw)
      clear hA hB hC hr hq
      by_cases hk0 : k = 0
      · subst hk0
        have hg : decide ((0 : Int) < ((0 : Nat) : Int)) = false := by simp
        go_quiet (fail)
        go_wp2
        go_roundw
        case rel =>
          refine ⟨1, by omega, by go_num, hik (fun i hi => ?_), hik (KA.out.drewN _)⟩
          obtain rfl : i = 0 := by omega
          exact ⟨HT.out, by simp [prE]⟩
        case measure => simp [intOf]; omega
      · obtain ⟨j, rfl⟩ : ∃ j, k = j + 1 := ⟨k - 1, by omega⟩
        obtain ⟨yb, yo, ey, _, d0, d1, d2⟩ := VW.out j (by omega)
        simp at ey
        obtain ⟨rfl, rfl⟩ := ey
        have hjn : ((j : Nat) : Int) < n := by omega
        generalize hyy : X j = y at d0 d1 d2
        have HY := hik hyy
        clear hyy
        obtain ⟨y1, y2, y3⟩ := y
        have hg : (0 : Int) < ((j + 1 : Nat) : Int) := by omega
        have d0 : wr.cell? ⟨xb, xo + j * 3, none⟩ = some (.int .i64 y1) := d0
        have d1 : wr.cell? ⟨xb, xo + j * 3 + 1, none⟩ = some (.int .i64 y2) := d1
        clear d2
        by_cases a1 : x1 < y1
        · have a1' : decide (x1 < y1) = true := by simp [a1]
          go_quiet (fail)
          go_wp2
          go_ret
          have HF : elm (2 ^ r) (2 ^ q) n X = false := elm_no hlt (.inr (by simp only [prE, Nat.add_sub_cancel]; rw [HY.out, HE.out]; simp [enlt]; omega))
          exact ⟨ret_bool HF.symm, KA.out.drewN _⟩
        · have a1' : decide (x1 < y1) = false := by simp [a1]
          by_cases a2 : y1 = x1
          · by_cases a3 : x2 ≤ y2
            · have a3' : decide (x2 ≤ y2) = true := by simp [a3]
              go_quiet (fail)
              go_wp2
              go_ret
              have HF : elm (2 ^ r) (2 ^ q) n X = false := elm_no hlt (.inr (by simp only [prE, Nat.add_sub_cancel]; rw [HY.out, HE.out]; simp [enlt]; omega))
              exact ⟨ret_bool HF.symm, KA.out.drewN _⟩
            · have a3' : decide (x2 ≤ y2) = false := by simp [a3]
              go_quiet (fail)
              go_wp2
              go_roundw
              case rel =>
                refine ⟨j + 1 + 1, by omega, by go_num, hik (fun i hi => ?_), hik (KA.out.drewN _)⟩
                by_cases e : i = j + 1
                · subst e
                  exact ⟨HT.out, by simp only [prE, Nat.add_sub_cancel]; rw [HY.out, HE.out]; simp [enlt]; omega⟩
                · exact HW.out i (by omega)
              case measure => simp [intOf]; omega
          · have a2' : (y1 == x1) = false := by simp [a2]
            have a2'' : decide (y1 = x1) = false := by simp [a2]
            go_quiet (fail)
            go_wp2
            go_roundw
            case rel =>
              refine ⟨j + 1 + 1, by omega, by go_num, hik (fun i hi => ?_), hik (KA.out.drewN _)⟩
              by_cases e : i = j + 1
              · subst e
                exact ⟨HT.out, by simp only [prE, Nat.add_sub_cancel]; rw [HY.out, HE.out]; simp [enlt]; omega⟩
              · exact HW.out i (by omega)
            case measure => simp [intOf]; omega
    · obtain rfl : k = n := by omega
      have HZ := hik (okE_elm (by omega) HW.out)
      go_wp2
      go_ret
      exact ⟨ret_bool HZ.out.symm, KW.out⟩

end Go.Proofs.Ytbjhppamolmpeaa
