/- Several texts in one: Whether a list of entries is a matrix: the model's contract. · Whether a system is right: the model's contract. -/
import Derived.Test.YtppiilbcnkphbaaGreatBzav
import Derived.Deep.QuietTactic
import Derived.BigQuiet
import Derived.Deep.RegionHeld3
import Derived.Deep.DeepCutAuto
import Derived.Test.YtppiilbcnkphbaaGreatBzay
import Derived.IntWalk
namespace Go.Proofs.YtppiilbcnkphbaaGreat
open Go.ChangeShapes Go.WideShapes Go.ChangeAt Go.RowKit
set_option linter.unusedVariables false
set_option maxRecDepth 100000
set_option linter.unusedSimpArgs false

theorem win_in {r q : Nat} (hr : r ≤ 5) (hq : q ≤ 5) (x1 x2 x3 : Int) : win (2 ^ r) (2 ^ q) (x1, x2, x3) = (inW x1 0 (wrap64 (wrap64 (2 ^ r) - 1)) && inW x2 0 (wrap64 (wrap64 (2 ^ q) - 1)) && inW x3 1 2130706432) := by
  have e : ∀ r : Nat, r ≤ 5 → wrap64 (wrap64 (2 ^ r) - 1) = 2 ^ r - 1 := by
    intro r hr
    rcases (show r = 0 ∨ r = 1 ∨ r = 2 ∨ r = 3 ∨ r = 4 ∨ r = 5 by omega) with rfl | rfl | rfl | rfl | rfl | rfl <;> kernel_rfl
  rw [e r hr, e q hq]
  generalize (2 : Int) ^ r = R
  generalize (2 : Int) ^ q = C
  simp only [win, inW]
  rw [Bool.eq_iff_iff]
  simp
  omega
/-- What stands ahead of the k-th one is less. -/
def prE (X : Nat → En) (k : Nat) : Bool := decide (k = 0) || enlt (X (k - 1)) (X k)
/-- The first k are right. -/
def okE (R C : Int) (X : Nat → En) (k : Nat) : Prop := ∀ i, i < k → win R C (X i) = true ∧ prE X i = true
theorem okE_elm {R C : Int} {X : Nat → En} {n : Nat} (hn : n ≤ 200) (h : okE R C X n) : elm R C n X = true := by
  have h1 : ((List.range n).all fun i => win R C (X i)) = true := by
    rw [List.all_eq_true]
    intro i hi
    exact (h i (by simpa using hi)).1
  have h2 : rsg n X = true := by
    rw [rsg_iff]
    intro i hi
    have := (h (i + 1) hi).2
    simpa [prE] using this
  simp [elm, h1, h2, hn]
theorem elm_no {R C : Int} {X : Nat → En} {n k : Nat} (hk : k < n) (h : win R C (X k) = false ∨ prE X k = false) : elm R C n X = false := by
  rcases h with h | h
  · have : ((List.range n).all fun i => win R C (X i)) = false := by
      rw [List.all_eq_false]
      exact ⟨k, by simpa using hk, by rw [h]; simp⟩
    simp [elm, this]
  · have hk0 : k ≠ 0 := by intro e; subst e; simp [prE] at h
    have : rsg n X = false := by
      cases hr : rsg n X with
      | false => rfl
      | true =>
        have := rsg_iff.1 hr (k - 1) (by omega)
        rw [show k - 1 + 1 = k by omega] at this
        simp [prE, this] at h
    simp [elm, this]

set_option maxHeartbeats 4000000 in
theorem sList_any (c : Option Addr) (n cap : Nat) (X : Nat → En) (r q : Nat) (hr : r ≤ 5) (hq : q ≤ 5) (w : World) (hv : Hid (EntV w c n X)) (hn : n ≤ 1099511627776) :
    Calls Tryz.prog 34 #[.slice c n cap, .int .i64 r, .int .i64 q] w fun e w' => e = .returned (.bool (elm (2 ^ r) (2 ^ q) n X)) ∧ Chg nob w w' := by
  by_cases h2 : 200 < n
  · have hz : elm (2 ^ r) (2 ^ q) n X = false := by simp [elm, show ¬ n ≤ 200 by omega]
    have h3 : (200 : Int) < n := by omega
    rw [hz]
    go_enter Tryz.func34, Tryz.ntmps34
    go_wp2
    go_ret
    exact ⟨rfl, Chg.refl _ _⟩
  have h3 : ¬ (200 : Int) < n := by omega
  go_enter Tryz.func34, Tryz.ntmps34
  go_wp2
  go_loopw [7] (fun s wr => ∃ k : Nat, k ≤ n ∧ s = .int .i64 k ∧ Hid (okE (2 ^ r) (2 ^ q) X k) ∧ Hid (Chg nob w wr)) (fun s _ => n - (intOf s).toNat)
  case atStart => exact ⟨0, Nat.zero_le _, rfl, hik (fun i hi => by omega), hik (Chg.refl _ _)⟩
  case round =>
    obtain ⟨k, hk, rfl, HW, KW⟩ := hrel
    by_cases hlt : k < n
    · have VW := hik (hv.out.keep KW.out)
      obtain ⟨xb, xo, rfl, hxb, c0, c1, c2⟩ := VW.out k hlt
      have hkn : ((k : Nat) : Int) < n := by omega
      have HXb := hik hxb
      generalize hxx : X k = x at c0 c1 c2
      have HE := hik hxx
      clear hxx
      obtain ⟨x1, x2, x3⟩ := x
      have KA := hik (KW.out.alloc (.cells #[.int .i64 x1, .int .i64 x2, .int .i64 x3] 87))
      cases hA : inW x1 0 (wrap64 (wrap64 (2 ^ r) - 1)) with
      | false =>
        have HF := hik (elm_no (R := 2 ^ r) (C := 2 ^ q) (X := X) hlt (.inl (by rw [HE.out, win_in hr hq, hA]; rfl)))
        go_wp2_with (go_at_call 33; refine (l01In_any _ _ _ _).mono ?_; rintro e W2 ⟨rfl, hw⟩; have hw := hw.symm; subst hw)
        go_ret
        exact ⟨ret_bool HF.out.symm, KA.out⟩
      | true =>
      cases hB : inW x2 0 (wrap64 (wrap64 (2 ^ q) - 1)) with
      | false =>
        have HF := hik (elm_no (R := 2 ^ r) (C := 2 ^ q) (X := X) hlt (.inl (by rw [HE.out, win_in hr hq, hB]; simp)))
        go_wp2_with (go_at_call 33; refine (l01In_any _ _ _ _).mono ?_; rintro e W2 ⟨rfl, hw⟩; have hw := hw.symm; subst hw)
        go_ret
        exact ⟨ret_bool HF.out.symm, KA.out⟩
      | true =>
      cases hC : inW x3 1 2130706432 with
      | false =>
        have HF := hik (elm_no (R := 2 ^ r) (C := 2 ^ q) (X := X) hlt (.inl (by rw [HE.out, win_in hr hq, hC]; simp)))
        go_wp2_with (go_at_call 33; refine (l01In_any _ _ _ _).mono ?_; rintro e W2 ⟨rfl, hw⟩; have hw := hw.symm; subst hw)
        go_ret
        exact ⟨ret_bool HF.out.symm, KA.out⟩
      | true =>
      have HT := hik (show win (2 ^ r) (2 ^ q) (X k) = true by rw [HE.out, win_in hr hq, hA, hB, hC]; rfl)
      go_upto_region 9 with (go_at_call 33; refine (l01In_any _ _ _ _).mono ?_; rintro e W2 ⟨rfl, hw⟩; have hw := hw.symm; subst hw)
      clear hA hB hC hr hq
      by_cases hk0 : k = 0
      · subst hk0
        have hg : decide ((0 : Int) < ((0 : Nat) : Int)) = false := by simp
        go_quiet (fail)
        go_wp2
        go_roundw
        case rel =>
          refine ⟨1, by omega, by go_num, hik (fun i hi => ?_), hik (KA.out.drewN _)⟩
          obtain rfl : i = 0 := by omega
          exact ⟨HT.out, by simp [prE]⟩
        case measure => simp [intOf]; omega
      · obtain ⟨j, rfl⟩ : ∃ j, k = j + 1 := ⟨k - 1, by omega⟩
        obtain ⟨yb, yo, ey, _, d0, d1, d2⟩ := VW.out j (by omega)
        simp at ey
        obtain ⟨rfl, rfl⟩ := ey
        have hjn : ((j : Nat) : Int) < n := by omega
        generalize hyy : X j = y at d0 d1 d2
        have HY := hik hyy
        clear hyy
        obtain ⟨y1, y2, y3⟩ := y
        have hg : (0 : Int) < ((j + 1 : Nat) : Int) := by omega
        have d0 : wr.cell? ⟨xb, xo + j * 3, none⟩ = some (.int .i64 y1) := d0
        have d1 : wr.cell? ⟨xb, xo + j * 3 + 1, none⟩ = some (.int .i64 y2) := d1
        clear d2
        by_cases a1 : x1 < y1
        · have a1' : decide (x1 < y1) = true := by simp [a1]
          go_quiet (fail)
          go_wp2
          go_ret
          have HF : elm (2 ^ r) (2 ^ q) n X = false := elm_no hlt (.inr (by simp only [prE, Nat.add_sub_cancel]; rw [HY.out, HE.out]; simp [enlt]; omega))
          exact ⟨ret_bool HF.symm, KA.out.drewN _⟩
        · have a1' : decide (x1 < y1) = false := by simp [a1]
          by_cases a2 : y1 = x1
          · by_cases a3 : x2 ≤ y2
            · have a3' : decide (x2 ≤ y2) = true := by simp [a3]
              go_quiet (fail)
              go_wp2
              go_ret
              have HF : elm (2 ^ r) (2 ^ q) n X = false := elm_no hlt (.inr (by simp only [prE, Nat.add_sub_cancel]; rw [HY.out, HE.out]; simp [enlt]; omega))
              exact ⟨ret_bool HF.symm, KA.out.drewN _⟩
            · have a3' : decide (x2 ≤ y2) = false := by simp [a3]
              go_quiet (fail)
              go_wp2
              go_roundw
              case rel =>
                refine ⟨j + 1 + 1, by omega, by go_num, hik (fun i hi => ?_), hik (KA.out.drewN _)⟩
                by_cases e : i = j + 1
                · subst e
                  exact ⟨HT.out, by simp only [prE, Nat.add_sub_cancel]; rw [HY.out, HE.out]; simp [enlt]; omega⟩
                · exact HW.out i (by omega)
              case measure => simp [intOf]; omega
          · have a2' : (y1 == x1) = false := by simp [a2]
            have a2'' : decide (y1 = x1) = false := by simp [a2]
            go_quiet (fail)
            go_wp2
            go_roundw
            case rel =>
              refine ⟨j + 1 + 1, by omega, by go_num, hik (fun i hi => ?_), hik (KA.out.drewN _)⟩
              by_cases e : i = j + 1
              · subst e
                exact ⟨HT.out, by simp only [prE, Nat.add_sub_cancel]; rw [HY.out, HE.out]; simp [enlt]; omega⟩
              · exact HW.out i (by omega)
            case measure => simp [intOf]; omega
    · obtain rfl : k = n := by omega
      have HZ := hik (okE_elm (by omega) HW.out)
      go_wp2
      go_ret
      exact ⟨ret_bool HZ.out.symm, KW.out⟩

end Go.Proofs.YtppiilbcnkphbaaGreat

namespace Go.Proofs.YtppiilbcnkphbaaGreat
open Go.ChangeShapes Go.WideShapes Go.ChangeAt Go.RowKit
set_option linter.unusedVariables false
set_option maxRecDepth 100000
set_option linter.unusedSimpArgs false

theorem sysb_s (s : Sy) : sysb s = (inW s.r 1 5 && (inW s.q 2 5 && (inW s.p 0 (2 ^ (s.q.toNat - 1) - 1) && (elm (2 ^ s.r.toNat) (2 ^ s.q.toNat) s.nA s.XA && (elm (2 ^ s.r.toNat) (2 ^ s.q.toNat) s.nB s.XB && elm (2 ^ s.r.toNat) (2 ^ s.q.toNat) s.nC s.XC))))) := by
  unfold sysb inW
  generalize (2 : Int) ^ (s.q.toNat - 1) = Z
  generalize elm (2 ^ s.r.toNat) (2 ^ s.q.toNat) s.nA s.XA = x
  generalize elm (2 ^ s.r.toNat) (2 ^ s.q.toNat) s.nB s.XB = y
  generalize elm (2 ^ s.r.toNat) (2 ^ s.q.toNat) s.nC s.XC = z
  have h : decide (0 ≤ s.p ∧ s.p < Z) = decide (0 ≤ s.p ∧ s.p ≤ Z - 1) := by
    rw [Bool.eq_iff_iff]
    simp
    omega
  rw [h]
  simp only [Bool.and_assoc]

set_option maxHeartbeats 4000000 in
theorem sSysOK_any (s : Sy) (a : SyA) (w : World) (hv : Hid (SyV w s a)) (hs : s.small) :
    Calls Tryz.prog 18 #[.agg #[.int .i64 s.r, .int .i64 s.q, .int .i64 s.p, .slice a.cA s.nA a.pA, .slice a.cB s.nB a.pB, .slice a.cC s.nC a.pC]] w fun e w' => e = .returned (.bool (sysb s)) ∧ Chg nob w w' := by
  obtain ⟨r, q, p, nA, nB, nC, XA, XB, XC⟩ := s
  obtain ⟨cA, cB, cC, pA, pB, pC⟩ := a
  obtain ⟨hsA, hsB, hsC⟩ := hs
  simp only at hsA hsB hsC
  have hS := sysb_s ⟨r, q, p, nA, nB, nC, XA, XB, XC⟩
  simp only at hS
  have HS := hik hS
  simp only
  generalize hsb : sysb ⟨r, q, p, nA, nB, nC, XA, XB, XC⟩ = ans at HS ⊢
  clear hsb hS
  have hV : Hid (EntV w cA nA XA ∧ EntV w cB nB XB ∧ EntV w cC nC XC) := hik ⟨hv.out.A, hv.out.B, hv.out.C⟩
  have KB := hik ((Chg.refl nob w).alloc (.cells #[.int .i64 r, .int .i64 q, .int .i64 p, .slice cA nA pA, .slice cB nB pB, .slice cC nC pC] 43))
  cases h1 : inW r 1 5 with
  | false =>
    go_enter Tryz.func18, Tryz.ntmps18
    go_wp2_with (go_at_call 33; refine (l01In_any _ _ _ _).mono ?_; rintro e W2 ⟨rfl, hw⟩; have hw := hw.symm; subst hw)
    go_ret
    exact ⟨ret_bool (by rw [HS.out, h1]; rfl), KB.out⟩
  | true =>
  cases h2 : inW q 2 5 with
  | false =>
    go_enter Tryz.func18, Tryz.ntmps18
    go_wp2_with (go_at_call 33; refine (l01In_any _ _ _ _).mono ?_; rintro e W2 ⟨rfl, hw⟩; have hw := hw.symm; subst hw)
    go_ret
    exact ⟨ret_bool (by rw [HS.out, h1, h2]; rfl), KB.out⟩
  | true =>
  have hq5 : 2 ≤ q ∧ q ≤ 5 := by simpa [inW] using h2
  have hr5 : 1 ≤ r ∧ r ≤ 5 := by simpa [inW] using h1
  obtain ⟨m, rfl⟩ : ∃ m : Nat, q = (m : Int) + 1 := ⟨q.toNat - 1, by omega⟩
  obtain ⟨rr, rfl⟩ : ∃ rr : Nat, r = (rr : Int) := ⟨r.toNat, by omega⟩
  have hm : ((m : Int) + 1).toNat = m + 1 := by omega
  have hrr : ((rr : Nat) : Int).toNat = rr := by omega
  rw [hm, hrr, h1, h2, Bool.true_and, Bool.true_and, Nat.add_sub_cancel] at HS
  have HA := fun W (h : Hid (EntV W cA nA XA)) => sList_any cA nA pA XA rr (m + 1) (by omega) (by omega) W h hsA
  have HB := fun W (h : Hid (EntV W cB nB XB)) => sList_any cB nB pB XB rr (m + 1) (by omega) (by omega) W h hsB
  have HC := fun W (h : Hid (EntV W cC nC XC)) => sList_any cC nC pC XC rr (m + 1) (by omega) (by omega) W h hsC
  simp only [show ((m + 1 : Nat) : Int) = (m : Int) + 1 by omega] at HA HB HC
  have hz := wp2 m (by omega)
  have hz1 : wrap64 (2 ^ m - 1) = 2 ^ m - 1 := Go.IntWalk.wrap64_in _ (by rcases (show m = 0 ∨ m = 1 ∨ m = 2 ∨ m = 3 ∨ m = 4 by omega) with rfl | rfl | rfl | rfl | rfl <;> decide)
  generalize elm (2 ^ rr) (2 ^ (m + 1)) nA XA = eA at HA HS
  generalize elm (2 ^ rr) (2 ^ (m + 1)) nB XB = eB at HB HS
  generalize elm (2 ^ rr) (2 ^ (m + 1)) nC XC = eC at HC HS
  cases hp : inW p 0 (2 ^ m - 1) with
  | false =>
    rw [hp] at HS
    go_enter Tryz.func18, Tryz.ntmps18
    go_wp2_with (go_at_call 33; refine (l01In_any _ _ _ _).mono ?_; rintro e W2 ⟨rfl, hw⟩; have hw := hw.symm; subst hw)
    go_ret
    exact ⟨ret_bool (by rw [HS.out]; rfl), KB.out⟩
  | true =>
  rw [hp, Bool.true_and] at HS
  go_enter Tryz.func18, Tryz.ntmps18
  go_wp2_with (go_at_call 33; refine (l01In_any _ _ _ _).mono ?_; rintro e W2 ⟨rfl, hw⟩; have hw := hw.symm; subst hw)
  refine (HA _ (hik (hV.out.1.keep KB.out))).mono ?_
  rintro e w1 ⟨rfl, k1⟩
  have K1 := hik (KB.out.trans k1)
  have x0 : w1.cell? ⟨w.heap.size, 0, none⟩ = some (.int .i64 rr) := k1.look (by go_simp)
  have x1 : w1.cell? ⟨w.heap.size, 1, none⟩ = some (.int .i64 ((m : Int) + 1)) := k1.look (by go_simp)
  have x2 : w1.cell? ⟨w.heap.size, 2, none⟩ = some (.int .i64 p) := k1.look (by go_simp)
  have x3 : w1.cell? ⟨w.heap.size, 3, none⟩ = some (.slice cA nA pA) := k1.look (by go_simp)
  have x4 : w1.cell? ⟨w.heap.size, 4, none⟩ = some (.slice cB nB pB) := k1.look (by go_simp)
  have x5 : w1.cell? ⟨w.heap.size, 5, none⟩ = some (.slice cC nC pC) := k1.look (by go_simp)
  clear k1 hz hz1 h1 h2 hq5 hr5 hm hrr hp HA
  cases eA with
  | false =>
    go_wp2
    go_ret
    exact ⟨ret_bool (by rw [HS.out]; rfl), K1.out⟩
  | true =>
  rw [Bool.true_and] at HS
  go_wp2_with fail
  refine (HB _ (hik (hV.out.2.1.keep K1.out))).mono ?_
  rintro e w2 ⟨rfl, k2⟩
  have K2 := hik (K1.out.trans k2)
  replace x0 := k2.look x0
  replace x1 := k2.look x1
  replace x2 := k2.look x2
  replace x3 := k2.look x3
  replace x4 := k2.look x4
  replace x5 := k2.look x5
  clear k2 HB
  cases eB with
  | false =>
    go_wp2
    go_ret
    exact ⟨ret_bool (by rw [HS.out]; rfl), K2.out⟩
  | true =>
  rw [Bool.true_and] at HS
  go_wp2_with fail
  refine (HC _ (hik (hV.out.2.2.keep K2.out))).mono ?_
  rintro e w3 ⟨rfl, k3⟩
  have K3 := hik (K2.out.trans k3)
  clear k3 HC x0 x1 x2 x3 x4 x5
  go_wp2
  go_ret
  exact ⟨ret_bool HS.out.symm, K3.out⟩

end Go.Proofs.YtppiilbcnkphbaaGreat
