/- What the program's FoldWord answers: a contract. Conditions: lists that can be read, of at most 2 to the 40, their capacity not below their length. -/
import Derived.Test.YtagjffjdoimhbapFowX
import Derived.Test.YtagjffjdoimhbapNttG
import Derived.Test.YtagjffjdoimhbapLawW
namespace Go.Proofs.Ytagjffjdoimhbap
open Go.ChangeShapes Go.WideShapes Go.ChangeAt Go.RowKit
set_option linter.unusedVariables false
set_option maxRecDepth 100000
set_option linter.unusedSimpArgs false

theorem fwn_le (f g : Nat → Int) (n : Nat) (a b : Int) : fwn f g n a b ≤ 256 := by
  unfold fwn
  by_cases h : fwc f g n a b = 0
  · rw [if_pos h]
    unfold fwc at h
    by_cases h1 : akc7 f g n = 0
    · obtain ⟨_, m, hm, hnm⟩ := akc7_ok h1
      have := pow_le9 hm
      omega
    · rw [if_neg h1] at h; exact absurd h h1
  · rw [if_neg h]; omega

set_option maxHeartbeats 2000000 in
theorem foldWX_any (c : Option Addr) (n cap : Nat) (f g : Nat → Int) (a b : Int) (w : World) (h : Hid (PairV w c n f g)) (hn : n ≤ 1099511627776) (hc : n ≤ cap) (hcap : (cap : Int) ≤ 9223372036854775807) :
    Calls Try.prog 22 #[.slice c n cap, .agg #[.int .i64 a, .int .i64 b]] w fun e w' => TbC w (fwc f g n a b) (fwn f g n a b) (fwv f g n a b) e w' := by
  obtain ⟨k, hk⟩ : ∃ k, k = akc7 f g n := ⟨_, rfl⟩
  have HK := hik hk.symm
  by_cases h0 : k = 0
  · have HC0 := hik (show akc7 f g n = 0 by rw [← hk, h0])
    subst h0
    obtain ⟨hok, m, hm, hnm⟩ := akc7_ok HC0.out
    have hn5 : n ≤ 512 := by rw [hnm]; exact pow_le9 hm
    clear hk
    cases hr : eok a b
    · have HC := hik (show fwc f g n a b = 1 by unfold fwc; rw [if_pos HC0.out, hr]; rfl)
      have HM := hik (fwn_none HC.out (by decide))
      clear hnm
      go_enter Try.func22, Try.ntmps22
      go_wp2_with fail
      refine (wordCode_any c n cap f g _ (hik (h.out.keep ((Chg.refl nob w).alloc _))) hn).mono ?_
      rintro e W1 ⟨rfl, k1⟩
      rw [HK.out]
      have K1 := hik (((Chg.refl nob w).alloc _).trans k1)
      have E1 := hik ((Elem.new w a b 38).keep k1)
      clear k1
      have a0 := E1.out.c0
      have a1 := E1.out.c1
      go_wp2_with fail
      refine (extOK_any a b _).mono ?_
      rintro e W2 ⟨he, k2⟩
      rw [hr] at he
      subst he
      have K2 := hik (K1.out.trans k2)
      clear k2 a0 a1
      go_wp2
      go_ret2
      exact TbC.none HC.out HM.out K2.out
    by_cases hn1 : n = 1
    · have HC := hik (show fwc f g n a b = 8 by unfold fwc; rw [if_pos HC0.out, hr, if_pos rfl, if_pos hn1])
      have HM := hik (fwn_none HC.out (by decide))
      have hb1 : ((n : Int) == 1) = true := by rw [hn1]; rfl
      have HN1 := hik hn1
      clear hnm hn1
      go_enter Try.func22, Try.ntmps22
      go_wp2_with fail
      refine (wordCode_any c n cap f g _ (hik (h.out.keep ((Chg.refl nob w).alloc _))) hn).mono ?_
      rintro e W1 ⟨rfl, k1⟩
      rw [HK.out]
      have K1 := hik (((Chg.refl nob w).alloc _).trans k1)
      have E1 := hik ((Elem.new w a b 38).keep k1)
      clear k1
      have a0 := E1.out.c0
      have a1 := E1.out.c1
      go_wp2_with fail
      refine (extOK_any a b _).mono ?_
      rintro e W2 ⟨he, k2⟩
      rw [hr] at he
      subst he
      have K2 := hik (K1.out.trans k2)
      clear k2 a0 a1
      go_wp2
      go_ret2
      exact TbC.none HC.out HM.out K2.out
    · obtain ⟨j, rfl⟩ : ∃ j, m = j + 1 := ⟨m - 1, by
        cases m with
        | zero => exact absurd hnm hn1
        | succ j => omega⟩
      have hnH : n = 2 * (n / 2) := by rw [hnm, Nat.pow_succ, Nat.mul_div_cancel _ (by decide), Nat.mul_comm]
      obtain ⟨r, hra, hrb, hre⟩ : ∃ r : El, a = r.v.1 ∧ b = r.v.2 ∧ elP a b = r := ⟨elP a b, by rw [elP_v hr], by rw [elP_v hr], rfl⟩
      have HC : fwc f g n a b = 0 := by unfold fwc; rw [if_pos HC0.out, hr, if_pos rfl, if_neg hn1]
      have HM : fwn f g n a b = n / 2 := by unfold fwn; rw [if_pos HC]
      have HV : fwv f g n a b = fwE (j + 1) (n / 2) (elF f g) r := by unfold fwv; rw [hre, show n.log2 = j + 1 by rw [hnm, Nat.log2_two_pow]]
      rw [HC, HM, HV]
      subst hra hrb
      exact fow_any hm c n (n / 2) cap f g r w (hik hnm) hnH h HC0.out hc hcap
  · have HC := hik (show fwc f g n a b = k by unfold fwc; rw [if_neg (by rw [← hk]; exact h0), ← hk])
    have HM := hik (fwn_none HC.out h0)
    have hb : (k != 0) = true := bne_iff_ne.2 h0
    clear hk
    go_enter Try.func22, Try.ntmps22
    go_wp2_with fail
    refine (wordCode_any c n cap f g _ (hik (h.out.keep ((Chg.refl nob w).alloc _))) hn).mono ?_
    rintro e W1 ⟨rfl, k1⟩
    rw [HK.out]
    have K1 := hik (((Chg.refl nob w).alloc _).trans k1)
    have E1 := hik ((Elem.new w a b 38).keep k1)
    clear k1
    have a0 := E1.out.c0
    have a1 := E1.out.c1
    go_wp2
    go_ret2
    exact TbC.none HC.out HM.out K1.out
end Go.Proofs.Ytagjffjdoimhbap
