/- Several texts in one: Gates and circuits: which are right, how many of a kind there are: the model's contracts. · A gate's text: the model's contracts. No condition. -/
import Derived.Test.YtpndbkgjdnkmcaaDoorBzal
import Derived.Test.YtpndbkgjdnkmcaaDoorBzad
import Derived.Test.YtpndbkgjdnkmcaaDoorBzam
import Derived.WalkKit
import Derived.Deep.DeepCutAuto
import Derived.Test.YtpndbkgjdnkmcaaDoorRows
import Derived.Test.YtpndbkgjdnkmcaaDoorBzaa
import Derived.Test.YtpndbkgjdnkmcaaDoorBzac
import Derived.Test.YtpndbkgjdnkmcaaDoorBzao
import Derived.Laws.IdiomStrings
namespace Go.Proofs.YtpndbkgjdnkmcaaDoor
open Go.ChangeShapes Go.WideShapes Go.ChangeAt Go.RowKit
set_option linter.unusedVariables false
set_option maxRecDepth 100000
set_option linter.unusedSimpArgs false

set_option maxHeartbeats 1000000 in
theorem sUses_any (o : Int) (w : World) : Calls Tryd.prog 25 #[.int .i64 o] w fun e w' => e = .returned (.int .i64 (usg o)) ∧ w' = w := by
  have hin := l01In_any o 4 7 w
  cases h : inW o 4 7 with
  | true =>
    have H := hik (show usg o = 2 by have : 4 ≤ o ∧ o ≤ 7 := by simpa [inW] using h
                                     unfold usg; rw [if_pos this])
    rw [h] at hin
    go_enter Tryd.func25, Tryd.ntmps25
    go_wp2_with (go_at_call 39; refine hin.mono ?_; rintro e w' ⟨rfl, hw⟩; have hw := hw.symm; subst hw)
    go_ret
    exact ⟨ret_int H.out.symm, rfl⟩
  | false =>
    have h' : ¬ (4 ≤ o ∧ o ≤ 7) := by simpa [inW] using h
    rw [h] at hin
    by_cases h8 : o = 8
    · subst h8
      go_enter Tryd.func25, Tryd.ntmps25
      go_wp2_with (go_at_call 39; refine hin.mono ?_; rintro e w' ⟨rfl, hw⟩; have hw := hw.symm; subst hw)
      go_ret
      exact ⟨rfl, rfl⟩
    · have H := hik (show usg o = 0 by unfold usg; rw [if_neg h', if_neg h8])
      clear h'
      go_enter Tryd.func25, Tryd.ntmps25
      go_wp2_with (go_at_call 39; refine hin.mono ?_; rintro e w' ⟨rfl, hw⟩; have hw := hw.symm; subst hw)
      go_ret
      exact ⟨ret_int H.out.symm, rfl⟩

theorem gtb_two (m o a b k : Int) (h : 4 ≤ o ∧ o ≤ 7) : gtb m (o, a, b, k) = (inW a 0 (m - 1) && (inW b 0 (m - 1) && decide (k = 0))) := by
  have e : gtb m (o, a, b, k) = (ptb a true m && (ptb b true m && ptb k false 2130706433)) := by
    unfold gtb usg
    simp only [if_pos h]
    rw [decide_eq_true (show 1 ≤ o by omega), decide_eq_true (show o ≤ 8 by omega), decide_eq_false (show ¬ o = 3 by omega)]
    rfl
  rw [e, Bool.eq_iff_iff]
  simp [ptb, inW]
  omega
theorem gtb_bit (m a b k : Int) : gtb m (8, a, b, k) = (inW a 0 (m - 1) && (decide (b = 0) && decide (k = 0))) := by
  have e : gtb m (8, a, b, k) = (ptb a true m && (ptb b false m && ptb k false 2130706433)) := rfl
  rw [e, Bool.eq_iff_iff]
  simp [ptb, inW]
  omega
theorem gtb_con (m a b k : Int) : gtb m (3, a, b, k) = (decide (a = 0) && (decide (b = 0) && fok k)) := by
  have e : gtb m (3, a, b, k) = (ptb a false m && (ptb b false m && ptb k true 2130706433)) := rfl
  rw [e, Bool.eq_iff_iff]
  simp [ptb, fok]
  omega
theorem gtb_in (m o a b k : Int) (h : o = 1 ∨ o = 2) : gtb m (o, a, b, k) = (decide (a = 0) && (decide (b = 0) && decide (k = 0))) := by
  have e : gtb m (o, a, b, k) = (ptb a false m && (ptb b false m && ptb k false 2130706433)) := by rcases h with rfl | rfl <;> rfl
  rw [e, Bool.eq_iff_iff]
  simp [ptb]
  omega

set_option maxHeartbeats 8000000 in
theorem sGate_any (x : Gt) (m : Int) (w : World) (m0 : -1099511627776 ≤ m) (m1 : m ≤ 1099511627776) : Calls Tryd.prog 23 #[.agg #[.int .i64 x.1, .int .i64 x.2.1, .int .i64 x.2.2.1, .int .i64 x.2.2.2], .int .i64 m] w fun e w' => e = .returned (.bool (gtb m x)) ∧ Chg nob w w' := by
  obtain ⟨o, a, b, k⟩ := x
  have KB := hik ((Chg.refl nob w).alloc (.cells #[.int .i64 o, .int .i64 a, .int .i64 b, .int .i64 k] 23))
  by_cases ho : 1 ≤ o ∧ o ≤ 8
  · have hop : inW o 1 8 = true := decide_eq_true ho
    by_cases h2 : 4 ≤ o ∧ o ≤ 7
    · have HG := hik (gtb_two m o a b k h2)
      have hu : usg o = 2 := by unfold usg; rw [if_pos h2]
      have h3 : ¬ o = 3 := by omega
      generalize gtb m (o, a, b, k) = ans at HG ⊢
      clear h2 ho
      cases b1 : inW a 0 (m - 1) with
      | false =>
        go_enter Tryd.func23, Tryd.ntmps23
        go_wp2_with (first | (go_at_call 39; refine (l01In_any _ _ _ _).mono ?_; rintro e w' ⟨rfl, hw⟩; have hw := hw.symm; subst hw) | (go_at_call 25; refine (sUses_any _ _).mono ?_; rintro e w' ⟨rfl, hw⟩; have hw := hw.symm; subst hw) | (go_at_call 40; refine (sFieldOK_any _ _).mono ?_; rintro e w' ⟨rfl, hw⟩; have hw := hw.symm; subst hw))
        go_ret
        exact ⟨ret_bool (by rw [HG.out, b1]; rfl), KB.out⟩
      | true =>
      cases b2 : inW b 0 (m - 1) with
      | false =>
        go_enter Tryd.func23, Tryd.ntmps23
        go_wp2_with (first | (go_at_call 39; refine (l01In_any _ _ _ _).mono ?_; rintro e w' ⟨rfl, hw⟩; have hw := hw.symm; subst hw) | (go_at_call 25; refine (sUses_any _ _).mono ?_; rintro e w' ⟨rfl, hw⟩; have hw := hw.symm; subst hw) | (go_at_call 40; refine (sFieldOK_any _ _).mono ?_; rintro e w' ⟨rfl, hw⟩; have hw := hw.symm; subst hw))
        go_ret
        exact ⟨ret_bool (by rw [HG.out, b1, b2]; rfl), KB.out⟩
      | true =>
        go_enter Tryd.func23, Tryd.ntmps23
        go_wp2_with (first | (go_at_call 39; refine (l01In_any _ _ _ _).mono ?_; rintro e w' ⟨rfl, hw⟩; have hw := hw.symm; subst hw) | (go_at_call 25; refine (sUses_any _ _).mono ?_; rintro e w' ⟨rfl, hw⟩; have hw := hw.symm; subst hw) | (go_at_call 40; refine (sFieldOK_any _ _).mono ?_; rintro e w' ⟨rfl, hw⟩; have hw := hw.symm; subst hw))
        go_ret
        exact ⟨ret_bool (by rw [HG.out, b1, b2]; rfl), KB.out⟩
    · by_cases h8 : o = 8
      · subst h8
        have HG := hik (gtb_bit m a b k)
        have hu : usg 8 = 1 := rfl
        generalize gtb m (8, a, b, k) = ans at HG ⊢
        clear h2 ho
        cases b1 : inW a 0 (m - 1) with
        | false =>
          go_enter Tryd.func23, Tryd.ntmps23
          go_wp2_with (first | (go_at_call 39; refine (l01In_any _ _ _ _).mono ?_; rintro e w' ⟨rfl, hw⟩; have hw := hw.symm; subst hw) | (go_at_call 25; refine (sUses_any _ _).mono ?_; rintro e w' ⟨rfl, hw⟩; have hw := hw.symm; subst hw) | (go_at_call 40; refine (sFieldOK_any _ _).mono ?_; rintro e w' ⟨rfl, hw⟩; have hw := hw.symm; subst hw))
          go_ret
          exact ⟨ret_bool (by rw [HG.out, b1]; rfl), KB.out⟩
        | true =>
        by_cases b2 : b = 0
        · subst b2
          go_enter Tryd.func23, Tryd.ntmps23
          go_wp2_with (first | (go_at_call 39; refine (l01In_any _ _ _ _).mono ?_; rintro e w' ⟨rfl, hw⟩; have hw := hw.symm; subst hw) | (go_at_call 25; refine (sUses_any _ _).mono ?_; rintro e w' ⟨rfl, hw⟩; have hw := hw.symm; subst hw) | (go_at_call 40; refine (sFieldOK_any _ _).mono ?_; rintro e w' ⟨rfl, hw⟩; have hw := hw.symm; subst hw))
          go_ret
          exact ⟨ret_bool (by rw [HG.out, b1]; rfl), KB.out⟩
        · have b2' : (b != 0) = true := by simpa using b2
          go_enter Tryd.func23, Tryd.ntmps23
          go_wp2_with (first | (go_at_call 39; refine (l01In_any _ _ _ _).mono ?_; rintro e w' ⟨rfl, hw⟩; have hw := hw.symm; subst hw) | (go_at_call 25; refine (sUses_any _ _).mono ?_; rintro e w' ⟨rfl, hw⟩; have hw := hw.symm; subst hw) | (go_at_call 40; refine (sFieldOK_any _ _).mono ?_; rintro e w' ⟨rfl, hw⟩; have hw := hw.symm; subst hw))
          go_ret
          exact ⟨ret_bool (by rw [HG.out, b1, decide_eq_false b2]; rfl), KB.out⟩
      · have hu : usg o = 0 := by unfold usg; rw [if_neg h2, if_neg h8]
        by_cases h3 : o = 3
        · subst h3
          have HG := hik (gtb_con m a b k)
          generalize gtb m (3, a, b, k) = ans at HG ⊢
          clear h2 ho h8
          by_cases b1 : a = 0
          · subst b1
            by_cases b2 : b = 0
            · subst b2
              go_enter Tryd.func23, Tryd.ntmps23
              go_wp2_with (first | (go_at_call 39; refine (l01In_any _ _ _ _).mono ?_; rintro e w' ⟨rfl, hw⟩; have hw := hw.symm; subst hw) | (go_at_call 25; refine (sUses_any _ _).mono ?_; rintro e w' ⟨rfl, hw⟩; have hw := hw.symm; subst hw) | (go_at_call 40; refine (sFieldOK_any _ _).mono ?_; rintro e w' ⟨rfl, hw⟩; have hw := hw.symm; subst hw))
              go_ret
              exact ⟨ret_bool (by rw [HG.out]; rfl), KB.out⟩
            · have b2' : (b != 0) = true := by simpa using b2
              go_enter Tryd.func23, Tryd.ntmps23
              go_wp2_with (first | (go_at_call 39; refine (l01In_any _ _ _ _).mono ?_; rintro e w' ⟨rfl, hw⟩; have hw := hw.symm; subst hw) | (go_at_call 25; refine (sUses_any _ _).mono ?_; rintro e w' ⟨rfl, hw⟩; have hw := hw.symm; subst hw) | (go_at_call 40; refine (sFieldOK_any _ _).mono ?_; rintro e w' ⟨rfl, hw⟩; have hw := hw.symm; subst hw))
              go_ret
              exact ⟨ret_bool (by rw [HG.out, decide_eq_false b2]; rfl), KB.out⟩
          · have b1' : (a != 0) = true := by simpa using b1
            go_enter Tryd.func23, Tryd.ntmps23
            go_wp2_with (first | (go_at_call 39; refine (l01In_any _ _ _ _).mono ?_; rintro e w' ⟨rfl, hw⟩; have hw := hw.symm; subst hw) | (go_at_call 25; refine (sUses_any _ _).mono ?_; rintro e w' ⟨rfl, hw⟩; have hw := hw.symm; subst hw) | (go_at_call 40; refine (sFieldOK_any _ _).mono ?_; rintro e w' ⟨rfl, hw⟩; have hw := hw.symm; subst hw))
            go_ret
            exact ⟨ret_bool (by rw [HG.out, decide_eq_false b1]; rfl), KB.out⟩
        · have HG := hik (gtb_in m o a b k (by omega))
          generalize gtb m (o, a, b, k) = ans at HG ⊢
          clear h2 ho h8
          by_cases b1 : a = 0
          · subst b1
            by_cases b2 : b = 0
            · subst b2
              go_enter Tryd.func23, Tryd.ntmps23
              go_wp2_with (first | (go_at_call 39; refine (l01In_any _ _ _ _).mono ?_; rintro e w' ⟨rfl, hw⟩; have hw := hw.symm; subst hw) | (go_at_call 25; refine (sUses_any _ _).mono ?_; rintro e w' ⟨rfl, hw⟩; have hw := hw.symm; subst hw) | (go_at_call 40; refine (sFieldOK_any _ _).mono ?_; rintro e w' ⟨rfl, hw⟩; have hw := hw.symm; subst hw))
              go_ret
              exact ⟨ret_bool (by rw [HG.out]; rfl), KB.out⟩
            · have b2' : (b != 0) = true := by simpa using b2
              go_enter Tryd.func23, Tryd.ntmps23
              go_wp2_with (first | (go_at_call 39; refine (l01In_any _ _ _ _).mono ?_; rintro e w' ⟨rfl, hw⟩; have hw := hw.symm; subst hw) | (go_at_call 25; refine (sUses_any _ _).mono ?_; rintro e w' ⟨rfl, hw⟩; have hw := hw.symm; subst hw) | (go_at_call 40; refine (sFieldOK_any _ _).mono ?_; rintro e w' ⟨rfl, hw⟩; have hw := hw.symm; subst hw))
              go_ret
              exact ⟨ret_bool (by rw [HG.out, decide_eq_false b2]; rfl), KB.out⟩
          · have b1' : (a != 0) = true := by simpa using b1
            go_enter Tryd.func23, Tryd.ntmps23
            go_wp2_with (first | (go_at_call 39; refine (l01In_any _ _ _ _).mono ?_; rintro e w' ⟨rfl, hw⟩; have hw := hw.symm; subst hw) | (go_at_call 25; refine (sUses_any _ _).mono ?_; rintro e w' ⟨rfl, hw⟩; have hw := hw.symm; subst hw) | (go_at_call 40; refine (sFieldOK_any _ _).mono ?_; rintro e w' ⟨rfl, hw⟩; have hw := hw.symm; subst hw))
            go_ret
            exact ⟨ret_bool (by rw [HG.out, decide_eq_false b1]; rfl), KB.out⟩
  · have hop : inW o 1 8 = false := decide_eq_false ho
    have HG := hik (show gtb m (o, a, b, k) = false by unfold gtb; rw [show (decide (1 ≤ (o, a, b, k).1) && decide ((o, a, b, k).1 ≤ 8)) = false by simp; omega]; rfl)
    clear ho
    go_enter Tryd.func23, Tryd.ntmps23
    go_wp2_with (first | (go_at_call 39; refine (l01In_any _ _ _ _).mono ?_; rintro e w' ⟨rfl, hw⟩; have hw := hw.symm; subst hw) | (go_at_call 25; refine (sUses_any _ _).mono ?_; rintro e w' ⟨rfl, hw⟩; have hw := hw.symm; subst hw) | (go_at_call 40; refine (sFieldOK_any _ _).mono ?_; rintro e w' ⟨rfl, hw⟩; have hw := hw.symm; subst hw))
    go_ret
    exact ⟨ret_bool HG.out.symm, KB.out⟩


end Go.Proofs.YtpndbkgjdnkmcaaDoor

namespace Go.Proofs.YtpndbkgjdnkmcaaDoor
open Go.ChangeShapes Go.WideShapes Go.ChangeAt Go.RowKit
set_option linter.unusedVariables false
set_option maxRecDepth 100000
set_option linter.unusedSimpArgs false

set_option maxHeartbeats 1000000 in
theorem sNames_any (w : World) : Calls Tryd.prog 24 #[] w fun e w' => ∃ b : Nat, e = .returned (.slice (some ⟨b, 0, none⟩) 9 9) ∧ (∀ j : Nat, j < 9 → w'.cell? ⟨b, j, none⟩ = some (.string ⟨(gwd j).toArray⟩)) ∧ Chg nob w w' := by
  go_enter Tryd.func24, Tryd.ntmps24
  go_wp2
  go_ret
  refine ⟨w.heap.size, rfl, fun j hj => ?_, (Chg.refl nob w).alloc _⟩
  rcases (show j = 0 ∨ j = 1 ∨ j = 2 ∨ j = 3 ∨ j = 4 ∨ j = 5 ∨ j = 6 ∨ j = 7 ∨ j = 8 by omega) with rfl | rfl | rfl | rfl | rfl | rfl | rfl | rfl | rfl <;> first | rfl | (simp [gwd]; done)


end Go.Proofs.YtpndbkgjdnkmcaaDoor
