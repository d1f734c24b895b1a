/- Whether a system is right: the model's contract. -/
import Derived.Test.YtbjhppamolmpeaaBzan
import Derived.Test.YtbjhppamolmpeaaGrdL
import Derived.IntWalk
namespace Go.Proofs.Ytbjhppamolmpeaa
open Go.ChangeShapes Go.WideShapes Go.ChangeAt Go.RowKit
set_option linter.unusedVariables false
set_option maxRecDepth 100000
set_option linter.unusedSimpArgs false

theorem sysb_s (s : Sy) : sysb s = (inW s.r 1 5 && (inW s.q 2 5 && (inW s.p 0 (2 ^ (s.q.toNat - 1) - 1) && (elm (2 ^ s.r.toNat) (2 ^ s.q.toNat) s.nA s.XA && (elm (2 ^ s.r.toNat) (2 ^ s.q.toNat) s.nB s.XB && elm (2 ^ s.r.toNat) (2 ^ s.q.toNat) s.nC s.XC))))) := by
  unfold sysb inW
  generalize (2 : Int) ^ (s.q.toNat - 1) = Z
  generalize elm (2 ^ s.r.toNat) (2 ^ s.q.toNat) s.nA s.XA = x
  generalize elm (2 ^ s.r.toNat) (2 ^ s.q.toNat) s.nB s.XB = y
  generalize elm (2 ^ s.r.toNat) (2 ^ s.q.toNat) s.nC s.XC = z
  have h : decide (0 ≤ s.p ∧ s.p < Z) = decide (0 ≤ s.p ∧ s.p ≤ Z - 1) := by
    rw [Bool.eq_iff_iff]
    simp
    omega
  rw [h]
  simp only [Bool.and_assoc]

set_option maxHeartbeats 4000000 in
theorem sSysOK_any (s : Sy) (a : SyA) (w : World) (hv : Hid (SyV w s a)) (hs : s.small) :
    Calls Try.prog 34 #[.agg #[.int .i64 s.r, .int .i64 s.q, .int .i64 s.p, .slice a.cA s.nA a.pA, .slice a.cB s.nB a.pB, .slice a.cC s.nC a.pC]] w fun e w' => e = .returned (.bool (sysb s)) ∧ Chg nob w w' := by
  obtain ⟨r, q, p, nA, nB, nC, XA, XB, XC⟩ := s
  obtain ⟨cA, cB, cC, pA, pB, pC⟩ := a
  obtain ⟨hsA, hsB, hsC⟩ := hs
  simp only at hsA hsB hsC
  have hS := sysb_s ⟨r, q, p, nA, nB, nC, XA, XB, XC⟩
  simp only at hS
  have HS := hik hS
  simp only
  generalize hsb : sysb ⟨r, q, p, nA, nB, nC, XA, XB, XC⟩ = ans at HS ⊢
  clear hsb hS
  have hV : Hid (EntV w cA nA XA ∧ EntV w cB nB XB ∧ EntV w cC nC XC) := hik ⟨hv.out.A, hv.out.B, hv.out.C⟩
  have KB := hik ((Chg.refl nob w).alloc (.cells #[.int .i64 r, .int .i64 q, .int .i64 p, .slice cA nA pA, .slice cB nB pB, .slice cC nC pC] 46))
  cases h1 : inW r 1 5 with
  | false =>
    go_enter Try.func34, Try.ntmps34
    go_wp2_with (go_at_call 29; refine (l01In_any _ _ _ _).mono ?_; rintro e W2 ⟨rfl, hw⟩; have hw := hw.symm; subst hw)
    go_ret
    exact ⟨ret_bool (by rw [HS.out, h1]; rfl), KB.out⟩
  | true =>
  cases h2 : inW q 2 5 with
  | false =>
    go_enter Try.func34, Try.ntmps34
    go_wp2_with (go_at_call 29; refine (l01In_any _ _ _ _).mono ?_; rintro e W2 ⟨rfl, hw⟩; have hw := hw.symm; subst hw)
    go_ret
    exact ⟨ret_bool (by rw [HS.out, h1, h2]; rfl), KB.out⟩
  | true =>
  have hq5 : 2 ≤ q ∧ q ≤ 5 := by simpa [inW] using h2
  have hr5 : 1 ≤ r ∧ r ≤ 5 := by simpa [inW] using h1
  obtain ⟨m, rfl⟩ : ∃ m : Nat, q = (m : Int) + 1 := ⟨q.toNat - 1, by omega⟩
  obtain ⟨rr, rfl⟩ : ∃ rr : Nat, r = (rr : Int) := ⟨r.toNat, by omega⟩
  have hm : ((m : Int) + 1).toNat = m + 1 := by omega
  have hrr : ((rr : Nat) : Int).toNat = rr := by omega
  rw [hm, hrr, h1, h2, Bool.true_and, Bool.true_and, Nat.add_sub_cancel] at HS
  have HA := fun W (h : Hid (EntV W cA nA XA)) => sList_any cA nA pA XA rr (m + 1) (by omega) (by omega) W h hsA
  have HB := fun W (h : Hid (EntV W cB nB XB)) => sList_any cB nB pB XB rr (m + 1) (by omega) (by omega) W h hsB
  have HC := fun W (h : Hid (EntV W cC nC XC)) => sList_any cC nC pC XC rr (m + 1) (by omega) (by omega) W h hsC
  simp only [show ((m + 1 : Nat) : Int) = (m : Int) + 1 by omega] at HA HB HC
  have hz := wp2 m (by omega)
  have hz1 : wrap64 (2 ^ m - 1) = 2 ^ m - 1 := Go.IntWalk.wrap64_in _ (by rcases (show m = 0 ∨ m = 1 ∨ m = 2 ∨ m = 3 ∨ m = 4 by omega) with rfl | rfl | rfl | rfl | rfl <;> decide)
  generalize elm (2 ^ rr) (2 ^ (m + 1)) nA XA = eA at HA HS
  generalize elm (2 ^ rr) (2 ^ (m + 1)) nB XB = eB at HB HS
  generalize elm (2 ^ rr) (2 ^ (m + 1)) nC XC = eC at HC HS
  cases hp : inW p 0 (2 ^ m - 1) with
  | false =>
    rw [hp] at HS
    go_enter Try.func34, Try.ntmps34
    go_wp2_with (go_at_call 29; refine (l01In_any _ _ _ _).mono ?_; rintro e W2 ⟨rfl, hw⟩; have hw := hw.symm; subst hw)
    go_ret
    exact ⟨ret_bool (by rw [HS.out]; rfl), KB.out⟩
  | true =>
  rw [hp, Bool.true_and] at HS
  go_enter Try.func34, Try.ntmps34
  go_wp2_with (go_at_call 29; refine (l01In_any _ _ _ _).mono ?_; rintro e W2 ⟨rfl, hw⟩; have hw := hw.symm; subst hw)
  refine (HA _ (hik (hV.out.1.keep KB.out))).mono ?_
  rintro e w1 ⟨rfl, k1⟩
  have K1 := hik (KB.out.trans k1)
  have x0 : w1.cell? ⟨w.heap.size, 0, none⟩ = some (.int .i64 rr) := k1.look (by go_simp)
  have x1 : w1.cell? ⟨w.heap.size, 1, none⟩ = some (.int .i64 ((m : Int) + 1)) := k1.look (by go_simp)
  have x2 : w1.cell? ⟨w.heap.size, 2, none⟩ = some (.int .i64 p) := k1.look (by go_simp)
  have x3 : w1.cell? ⟨w.heap.size, 3, none⟩ = some (.slice cA nA pA) := k1.look (by go_simp)
  have x4 : w1.cell? ⟨w.heap.size, 4, none⟩ = some (.slice cB nB pB) := k1.look (by go_simp)
  have x5 : w1.cell? ⟨w.heap.size, 5, none⟩ = some (.slice cC nC pC) := k1.look (by go_simp)
  clear k1 hz hz1 h1 h2 hq5 hr5 hm hrr hp HA
  cases eA with
  | false =>
    go_wp2
    go_ret
    exact ⟨ret_bool (by rw [HS.out]; rfl), K1.out⟩
  | true =>
  rw [Bool.true_and] at HS
  go_wp2_with fail
  refine (HB _ (hik (hV.out.2.1.keep K1.out))).mono ?_
  rintro e w2 ⟨rfl, k2⟩
  have K2 := hik (K1.out.trans k2)
  replace x0 := k2.look x0
  replace x1 := k2.look x1
  replace x2 := k2.look x2
  replace x3 := k2.look x3
  replace x4 := k2.look x4
  replace x5 := k2.look x5
  clear k2 HB
  cases eB with
  | false =>
    go_wp2
    go_ret
    exact ⟨ret_bool (by rw [HS.out]; rfl), K2.out⟩
  | true =>
  rw [Bool.true_and] at HS
  go_wp2_with fail
  refine (HC _ (hik (hV.out.2.2.keep K2.out))).mono ?_
  rintro e w3 ⟨rfl, k3⟩
  have K3 := hik (K2.out.trans k3)
  clear k3 HC x0 x1 x2 x3 x4 x5
  go_wp2
  go_ret
  exact ⟨ret_bool HS.out.symm, K3.out⟩

end Go.Proofs.Ytbjhppamolmpeaa
