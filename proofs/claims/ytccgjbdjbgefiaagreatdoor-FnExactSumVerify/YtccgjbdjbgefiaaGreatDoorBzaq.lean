/- Several texts in one: What the model's look at sources answers: a contract. Condition: rows that can be read. · What the program's look at sources answers: a contract. Condition: rows that can be read. -/
import Derived.Test.YtccgjbdjbgefiaaGreatDoorBzab
namespace Go.Proofs.YtccgjbdjbgefiaaGreatDoor
open Go.ChangeShapes Go.WideShapes Go.ChangeAt Go.RowKit
set_option linter.unusedVariables false
set_option maxRecDepth 100000
set_option linter.unusedSimpArgs false

/-- Is it right? -/
def sokb (f g : Nat → Int) (len : Nat) (at' : Int) (st : ByteArray) (ct : Int) : Bool := decide (len ≤ 64) && okP f g len && inW at' 0 1000000 && decide (st.size = 32) && inW ct 0 1000000

set_option maxHeartbeats 2000000 in
theorem sSourceOK_any (c : Option Addr) (len cap : Nat) (at' : Int) (st : ByteArray) (ct : Int) (f g : Nat → Int) (w : World) (h : Hid (PairV w c len f g)) (hl : (len : Int) ≤ 9223372036854775807) (hs : (st.size : Int) ≤ 9223372036854775807) :
    Calls Tryz.prog 23 #[.agg #[.slice c len cap, .int .i64 at', .string st, .int .i64 ct]] w fun e w' => e = .returned (.bool (sokb f g len at' st ct)) ∧ Chg nob w w' := by
  by_cases h1 : (len : Int) ≤ 64
  · have e1 : decide (len ≤ 64) = true := decide_eq_true (by omega)
    have hl40 : len ≤ 1099511627776 := by omega
    cases h2 : okP f g len
    · have E := hik (show sokb f g len at' st ct = false by unfold sokb; rw [h2]; simp)
      go_enter Tryz.func23, Tryz.ntmps23
      go_wp2_with (go_at_call 36; refine (l02List_any c len cap f g _ (hik (h.out.keep ((Chg.refl nob w).alloc _))) hl40).mono ?_; rintro e W1 ⟨he, k1⟩; rw [h2] at he; subst he; have G1 := hik (((Chg.refl nob w).alloc (.cells #[.slice c len cap, .int .i64 at', .string st, .int .i64 ct] 33)).trans k1); clear k1)
      go_ret
      exact ⟨by rw [E.out]; rfl, G1.out⟩
    · cases h3 : inW at' 0 1000000
      · have E := hik (show sokb f g len at' st ct = false by unfold sokb; rw [h3]; simp)
        go_enter Tryz.func23, Tryz.ntmps23
        go_wp2_with (first | (go_at_call 36; refine (l02List_any c len cap f g _ (hik (h.out.keep ((Chg.refl nob w).alloc _))) hl40).mono ?_; rintro e W1 ⟨he, k1⟩; rw [h2] at he; subst he; have G1 := hik (((Chg.refl nob w).alloc (.cells #[.slice c len cap, .int .i64 at', .string st, .int .i64 ct] 33)).trans k1); obtain ⟨hc1, _, _⟩ := kcell k1 (w.heap.size + 1) (by simp); clear k1) | (go_at_call 25; refine (l01In_any _ _ _ _).mono ?_; rintro e W2 ⟨he, hw⟩; rw [h3] at he; subst he; have hw := hw.symm; subst hw))
        go_ret
        exact ⟨by rw [E.out]; rfl, G1.out⟩
      · by_cases h4 : (st.size : Int) = 32
        · have e4 : decide (st.size = 32) = true := decide_eq_true (by omega)
          have E := hik (show sokb f g len at' st ct = inW ct 0 1000000 by unfold sokb; rw [e1, h2, h3, e4]; simp)
          cases h5 : inW ct 0 1000000
          · go_enter Tryz.func23, Tryz.ntmps23
            go_wp2_with (first | (go_at_call 36; refine (l02List_any c len cap f g _ (hik (h.out.keep ((Chg.refl nob w).alloc _))) hl40).mono ?_; rintro e W1 ⟨he, k1⟩; rw [h2] at he; subst he; have G1 := hik (((Chg.refl nob w).alloc (.cells #[.slice c len cap, .int .i64 at', .string st, .int .i64 ct] 33)).trans k1); obtain ⟨hc1, _, _⟩ := kcell k1 (w.heap.size + 1) (by simp); clear k1) | (go_at_call 25; refine (l01In_any _ _ _ _).mono ?_; rintro e W2 ⟨he, hw⟩; (first | rw [h3] at he | rw [h5] at he); subst he; have hw := hw.symm; subst hw))
            go_ret
            exact ⟨by rw [E.out, h5]; rfl, G1.out⟩
          · go_enter Tryz.func23, Tryz.ntmps23
            go_wp2_with (first | (go_at_call 36; refine (l02List_any c len cap f g _ (hik (h.out.keep ((Chg.refl nob w).alloc _))) hl40).mono ?_; rintro e W1 ⟨he, k1⟩; rw [h2] at he; subst he; have G1 := hik (((Chg.refl nob w).alloc (.cells #[.slice c len cap, .int .i64 at', .string st, .int .i64 ct] 33)).trans k1); obtain ⟨hc1, _, _⟩ := kcell k1 (w.heap.size + 1) (by simp); clear k1) | (go_at_call 25; refine (l01In_any _ _ _ _).mono ?_; rintro e W2 ⟨he, hw⟩; (first | rw [h3] at he | rw [h5] at he); subst he; have hw := hw.symm; subst hw))
            go_ret
            exact ⟨by rw [E.out, h5]; rfl, G1.out⟩
        · have E := hik (show sokb f g len at' st ct = false by
            have e4 : decide (st.size = 32) = false := decide_eq_false (by omega)
            unfold sokb; rw [e4]; simp)
          go_enter Tryz.func23, Tryz.ntmps23
          go_wp2_with (first | (go_at_call 36; refine (l02List_any c len cap f g _ (hik (h.out.keep ((Chg.refl nob w).alloc _))) hl40).mono ?_; rintro e W1 ⟨he, k1⟩; rw [h2] at he; subst he; have G1 := hik (((Chg.refl nob w).alloc (.cells #[.slice c len cap, .int .i64 at', .string st, .int .i64 ct] 33)).trans k1); obtain ⟨hc1, _, _⟩ := kcell k1 (w.heap.size + 1) (by simp); clear k1) | (go_at_call 25; refine (l01In_any _ _ _ _).mono ?_; rintro e W2 ⟨he, hw⟩; rw [h3] at he; subst he; have hw := hw.symm; subst hw))
          go_ret
          exact ⟨by rw [E.out]; rfl, G1.out⟩
  · have E := hik (show sokb f g len at' st ct = false by
      have e1 : decide (len ≤ 64) = false := decide_eq_false (by omega)
      unfold sokb; rw [e1]; rfl)
    go_enter Tryz.func23, Tryz.ntmps23
    go_wp2
    go_ret
    exact ⟨by rw [E.out]; rfl, (Chg.refl _ _).alloc _⟩

end Go.Proofs.YtccgjbdjbgefiaaGreatDoor

namespace Go.Proofs.YtccgjbdjbgefiaaGreatDoor
open Go.ChangeShapes Go.WideShapes Go.ChangeAt Go.RowKit
set_option linter.unusedVariables false
set_option maxRecDepth 100000
set_option linter.unusedSimpArgs false

theorem inW_no {n a b : Int} (h : ¬ (a ≤ n ∧ n ≤ b)) : inW n a b = false := decide_eq_false h
theorem inW_yes {n a b : Int} (h : a ≤ n ∧ n ≤ b) : inW n a b = true := decide_eq_true h

set_option maxHeartbeats 2000000 in
theorem sourceOK_any (c : Option Addr) (len cap : Nat) (at' : Int) (st : ByteArray) (ct : Int) (f g : Nat → Int) (w : World) (h : Hid (PairV w c len f g)) (hl : (len : Int) ≤ 9223372036854775807) (hs : (st.size : Int) ≤ 9223372036854775807) :
    Calls Tryz.prog 45 #[.agg #[.slice c len cap, .int .i64 at', .string st, .int .i64 ct]] w fun e w' => e = .returned (.bool (sokb f g len at' st ct)) ∧ Chg nob w w' := by
  by_cases h1 : (len : Int) ≤ 64
  · have e1 : decide (len ≤ 64) = true := decide_eq_true (by omega)
    have hl40 : len ≤ 1099511627776 := by omega
    cases h2 : okP f g len
    · have E := hik (show sokb f g len at' st ct = false by unfold sokb; rw [h2]; simp)
      go_enter Tryz.func45, Tryz.ntmps45
      go_wp2_with (go_at_call 69; refine (extsOK_any c len cap f g _ (hik (h.out.keep ((Chg.refl nob w).alloc _))) hl40).mono ?_; rintro e W1 ⟨he, k1⟩; rw [h2] at he; subst he; have G1 := hik (((Chg.refl nob w).alloc (.cells #[.slice c len cap, .int .i64 at', .string st, .int .i64 ct] 33)).trans k1); obtain ⟨hc1, _, _⟩ := kcell k1 (w.heap.size + 1) (by simp); clear k1)
      go_ret
      exact ⟨by rw [E.out]; rfl, G1.out⟩
    by_cases h4 : (st.size : Int) = 32
    · have e4 : decide (st.size = 32) = true := decide_eq_true (by omega)
      by_cases a0 : 0 ≤ at'
      · by_cases a1 : at' ≤ 1000000
        · have e3 : inW at' 0 1000000 = true := inW_yes ⟨a0, a1⟩
          by_cases c0 : 0 ≤ ct
          · have E := hik (show sokb f g len at' st ct = decide (ct ≤ 1000000) by
              unfold sokb inW
              rw [e1, h2, e4]
              simp [a0, a1, c0])
            go_enter Tryz.func45, Tryz.ntmps45
            go_wp2_with (go_at_call 69; refine (extsOK_any c len cap f g _ (hik (h.out.keep ((Chg.refl nob w).alloc _))) hl40).mono ?_; rintro e W1 ⟨he, k1⟩; rw [h2] at he; subst he; have G1 := hik (((Chg.refl nob w).alloc (.cells #[.slice c len cap, .int .i64 at', .string st, .int .i64 ct] 33)).trans k1); obtain ⟨hc1, _, _⟩ := kcell k1 (w.heap.size + 1) (by simp); clear k1)
            go_ret
            exact ⟨by rw [E.out]; rfl, G1.out⟩
          · have E := hik (show sokb f g len at' st ct = false by unfold sokb; rw [inW_no (n := ct) (fun x => c0 x.1)]; simp)
            go_enter Tryz.func45, Tryz.ntmps45
            go_wp2_with (go_at_call 69; refine (extsOK_any c len cap f g _ (hik (h.out.keep ((Chg.refl nob w).alloc _))) hl40).mono ?_; rintro e W1 ⟨he, k1⟩; rw [h2] at he; subst he; have G1 := hik (((Chg.refl nob w).alloc (.cells #[.slice c len cap, .int .i64 at', .string st, .int .i64 ct] 33)).trans k1); obtain ⟨hc1, _, _⟩ := kcell k1 (w.heap.size + 1) (by simp); clear k1)
            go_ret
            exact ⟨by rw [E.out]; rfl, G1.out⟩
        · have E := hik (show sokb f g len at' st ct = false by unfold sokb; rw [inW_no (n := at') (fun x => a1 x.2)]; simp)
          go_enter Tryz.func45, Tryz.ntmps45
          go_wp2_with (go_at_call 69; refine (extsOK_any c len cap f g _ (hik (h.out.keep ((Chg.refl nob w).alloc _))) hl40).mono ?_; rintro e W1 ⟨he, k1⟩; rw [h2] at he; subst he; have G1 := hik (((Chg.refl nob w).alloc (.cells #[.slice c len cap, .int .i64 at', .string st, .int .i64 ct] 33)).trans k1); obtain ⟨hc1, _, _⟩ := kcell k1 (w.heap.size + 1) (by simp); clear k1)
          go_ret
          exact ⟨by rw [E.out]; rfl, G1.out⟩
      · have E := hik (show sokb f g len at' st ct = false by unfold sokb; rw [inW_no (n := at') (fun x => a0 x.1)]; simp)
        go_enter Tryz.func45, Tryz.ntmps45
        go_wp2_with (go_at_call 69; refine (extsOK_any c len cap f g _ (hik (h.out.keep ((Chg.refl nob w).alloc _))) hl40).mono ?_; rintro e W1 ⟨he, k1⟩; rw [h2] at he; subst he; have G1 := hik (((Chg.refl nob w).alloc (.cells #[.slice c len cap, .int .i64 at', .string st, .int .i64 ct] 33)).trans k1); obtain ⟨hc1, _, _⟩ := kcell k1 (w.heap.size + 1) (by simp); clear k1)
        go_ret
        exact ⟨by rw [E.out]; rfl, G1.out⟩
    · have E := hik (show sokb f g len at' st ct = false by
        have e4 : decide (st.size = 32) = false := decide_eq_false (by omega)
        unfold sokb; rw [e4]; simp)
      go_enter Tryz.func45, Tryz.ntmps45
      go_wp2_with (go_at_call 69; refine (extsOK_any c len cap f g _ (hik (h.out.keep ((Chg.refl nob w).alloc _))) hl40).mono ?_; rintro e W1 ⟨he, k1⟩; rw [h2] at he; subst he; have G1 := hik (((Chg.refl nob w).alloc (.cells #[.slice c len cap, .int .i64 at', .string st, .int .i64 ct] 33)).trans k1); obtain ⟨hc1, _, _⟩ := kcell k1 (w.heap.size + 1) (by simp); clear k1)
      go_ret
      exact ⟨by rw [E.out]; rfl, G1.out⟩
  · have E := hik (show sokb f g len at' st ct = false by
      have e1 : decide (len ≤ 64) = false := decide_eq_false (by omega)
      unfold sokb; rw [e1]; rfl)
    go_enter Tryz.func45, Tryz.ntmps45
    go_wp2
    go_ret
    exact ⟨by rw [E.out]; rfl, (Chg.refl _ _).alloc _⟩

end Go.Proofs.YtccgjbdjbgefiaaGreatDoor
