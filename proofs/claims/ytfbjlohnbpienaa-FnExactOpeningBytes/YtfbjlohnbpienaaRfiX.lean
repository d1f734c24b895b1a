/- What the program's roundsFit answers: a contract. Conditions: lists that can be read, lengths of at most 2 to the 20. -/
import Derived.Test.YtfbjlohnbpienaaBzap
import Derived.Test.YtfbjlohnbpienaaCmbI
import Derived.Test.YtfbjlohnbpienaaBzah
namespace Go.Proofs.Ytfbjlohnbpienaa
open Go.ChangeShapes Go.WideShapes Go.ChangeAt Go.RowKit
set_option linter.unusedVariables false
set_option maxRecDepth 100000
set_option linter.unusedSimpArgs false

theorem dgv_1 : dgv 1 = 2 := by decide
set_option maxHeartbeats 2000000 in
theorem roundsFit_any (K D : Int) (M : Nat) (hD : Hid (dgv K = D)) (hM : (M : Int) = D + 1) (hM1 : M ≤ 10) (c : Option Addr) (n cap : Nat) (l : Nat → Nat) (f g : Nat → Nat → Int) (v : Int) (w : World) (h : Hid ((dEE n l f g).Rep w (.slice c n cap))) (hs : Hid ((dEE n l f g).small 1048576)) :
    Calls Try.prog 61 #[.int .i64 K, .slice c n cap, .int .i64 v] w fun e w' => e = .returned (.bool (rfB M v n l f g)) ∧ Chg nob w w' := by
  have hn : n ≤ 1048576 := hs.out.1
  have hDb : -1 ≤ D ∧ D ≤ 9 := by omega
  have HM := hik hM
  clear hM
  by_cases hv : (n : Int) = v
  · have HB := hik (show rfB M v n l f g = allN n (fun i => decide (l i = M) && okP (f i) (g i) (l i)) by unfold rfB; rw [decide_eq_true hv]; rfl)
    go_enter Try.func61, Try.ntmps61
    go_wp2_with fail
    refine (degX_any K _).mono ?_
    rintro e W0 ⟨he, k0⟩
    rw [hD.out] at he
    subst he
    have K0 := hik k0
    clear k0
    go_wp2
    go_loopw [22] (fun i W => ∃ k : Nat, k ≤ n ∧ i = .int .i64 (k : Int) ∧ Hid (∀ j, j < k → (decide (l j = M) && okP (f j) (g j) (l j)) = true) ∧ Hid (Chg nob w W)) (fun i _ => n - (intOf i).toNat)
    case atStart => exact ⟨0, Nat.zero_le _, rfl, hik (fun j hj => absurd hj (by omega)), K0⟩
    case round =>
      obtain ⟨k, hk, rfl, HL, HG⟩ := hrel
      rename World => wi
      by_cases hlt : k < n
      · have hk1 : (k : Int) < (n : Int) := by omega
        have hk0 : (0 : Int) ≤ (k : Int) := by omega
        obtain ⟨xb, xo, ec, hxb, hcc⟩ := (rep_list (h.out.keep HG.out)).2 k hlt
        obtain ⟨u, hc, hu⟩ := hcc 0 (by omega)
        obtain ⟨c1, p1, rfl, hP⟩ := hu
        subst ec
        rw [show xo + (k * 1 + 0) = xo + k by omega] at hc
        have PJ := hik hP
        have SK := hik (show l k ≤ 1048576 from hs.out.2 k 0 hlt (by omega))
        clear hP hcc
        by_cases e : (l k : Int) = D + 1
        · have HE := hik (show l k = M by have := HM.out; omega)
          cases ho : okP (f k) (g k) (l k)
          · have H1 := hik (show rfB M v n l f g = false by rw [HB.out]; exact allN_no hlt (by rw [ho]; simp))
            go_wp2_with (go_at_call 87; refine (extsOK_any c1 (l k) p1 (f k) (g k) _ PJ (by have := SK.out; omega)).mono ?_; rintro e W1 ⟨rfl, k1⟩; have G1 := hik (HG.out.trans k1); clear k1)
            go_ret
            exact ⟨ret_bool H1.out.symm, G1.out⟩
          · have H1 := hik (show (decide (l k = M) && okP (f k) (g k) (l k)) = true by rw [ho, decide_eq_true HE.out]; rfl)
            go_wp2_with (go_at_call 87; refine (extsOK_any c1 (l k) p1 (f k) (g k) _ PJ (by have := SK.out; omega)).mono ?_; rintro e W1 ⟨rfl, k1⟩; have G1 := hik (HG.out.trans k1); clear k1)
            go_roundw
            case rel => exact ⟨k + 1, by omega, by go_num, hik (fun j hj => by
              by_cases e : j = k
              · subst e; exact H1.out
              · exact HL.out j (by omega)), G1⟩
            case measure => simp [intOf]; omega
        · have H1 := hik (show rfB M v n l f g = false by rw [HB.out]; exact allN_no hlt (by rw [decide_eq_false (show ¬ l k = M by have := HM.out; omega)]; rfl))
          go_wp2
          go_ret
          exact ⟨ret_bool H1.out.symm, HG.out⟩
      · obtain ⟨m, hm⟩ : ∃ m, m = n := ⟨_, rfl⟩
        have hkm : k = m := by omega
        have hcc : ¬ (k : Int) < (n : Int) := by omega
        have H1 := hik (show rfB M v n l f g = true by rw [HB.out]; exact allN_yes (fun i hi => HL.out i (by omega)))
        clear hm hkm
        go_wp2
        go_ret
        exact ⟨ret_bool H1.out.symm, HG.out⟩
  · have HB := hik (show rfB M v n l f g = false by unfold rfB; rw [decide_eq_false hv]; rfl)
    go_enter Try.func61, Try.ntmps61
    go_wp2
    go_ret
    exact ⟨ret_bool HB.out.symm, Chg.refl _ _⟩

end Go.Proofs.Ytfbjlohnbpienaa
