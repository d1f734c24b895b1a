/- What the model's FoldWord answers: a contract. Conditions: lists that can be read, of at most 2 to the 40. -/
import Derived.Test.YtagjffjdoimhbapNttF
import Derived.Test.YtagjffjdoimhbapTabQ
namespace Go.Proofs.Ytagjffjdoimhbap
open Go.ChangeShapes Go.WideShapes Go.ChangeAt Go.RowKit
set_option linter.unusedVariables false
set_option maxRecDepth 100000
set_option linter.unusedSimpArgs false

def fwc (f g : Nat → Int) (n : Nat) (a b : Int) : Int := if akc7 f g n = 0 then (if eok a b then (if n = 1 then 8 else 0) else 1) else akc7 f g n
def fwn (f g : Nat → Int) (n : Nat) (a b : Int) : Nat := if fwc f g n a b = 0 then n / 2 else 0
def fwv (f g : Nat → Int) (n : Nat) (a b : Int) : Nat → El := fwE n.log2 (n / 2) (elF f g) (elP a b)
theorem fwn_none {f g : Nat → Int} {n : Nat} {a b k : Int} (h : fwc f g n a b = k) (hk : k ≠ 0) : fwn f g n a b = 0 := if_neg (by rw [h]; exact hk)

set_option maxHeartbeats 2000000 in
theorem sFoldWX_any (c : Option Addr) (n cap : Nat) (f g : Nat → Int) (a b : Int) (w : World) (h : Hid (PairV w c n f g)) (hn : n ≤ 1099511627776) :
    Calls Try.prog 20 #[.slice c n cap, .agg #[.int .i64 a, .int .i64 b]] w fun e w' => TbC w (fwc f g n a b) (fwn f g n a b) (fwv f g n a b) e w' := by
  by_cases hl : 4096 < n
  · have hl' : 4096 < (n : Int) := by omega
    have HC := hik (show fwc f g n a b = 2 by unfold fwc akc7; rw [if_pos hl]; rfl)
    have HM := hik (fwn_none HC.out (by decide))
    go_enter Try.func20, Try.ntmps20
    go_wp2
    go_ret2
    exact TbC.empty HC.out HM.out (by omega) (((Chg.refl _ _).alloc _).alloc _)
  have hl' : ¬ 4096 < (n : Int) := by omega
  obtain ⟨k, hk⟩ : ∃ k, k = akc7 f g n := ⟨_, rfl⟩
  have HK := hik hk.symm
  by_cases h0 : k = 0
  · have HC0 := hik (show akc7 f g n = 0 by rw [← hk, h0])
    subst h0
    obtain ⟨hok, m, hm, hnm⟩ := akc7_ok HC0.out
    have hn5 : n ≤ 512 := by rw [hnm]; exact pow_le9 hm
    have HN := hik hnm
    have HL := hik (show n.log2 = m by rw [hnm, Nat.log2_two_pow])
    have HP := hik (PairE.of h.out hok)
    clear hk
    cases hr : eok a b
    · have HC := hik (show fwc f g n a b = 1 by unfold fwc; rw [if_pos HC0.out, hr]; rfl)
      have HM := hik (fwn_none HC.out (by decide))
      clear hnm
      go_enter Try.func20, Try.ntmps20
      go_wp2_with fail
      refine (sAsk7_any c n cap f g _ (hik (h.out.keep ((Chg.refl nob w).alloc _))) hn).mono ?_
      rintro e W1 ⟨rfl, k1⟩
      rw [HK.out]
      have K1 := hik (((Chg.refl nob w).alloc _).trans k1)
      have E1 := hik ((Elem.new w a b 38).keep k1)
      clear k1
      have a0 := E1.out.c0
      have a1 := E1.out.c1
      go_wp2_with (go_at_call 38; refine (sExtOK_any _ _ _).mono ?_; rintro e W2 ⟨he, k2⟩; rw [hr] at he; subst he; have K2 := hik (K1.out.trans k2); clear k2 a0 a1)
      go_ret2
      exact TbC.empty HC.out HM.out (by omega) (K2.out.alloc _)
    · by_cases h1 : n = 1
      · have HC := hik (show fwc f g n a b = 8 by unfold fwc; rw [if_pos HC0.out, hr]; simp [h1])
        have HM := hik (fwn_none HC.out (by decide))
        clear hnm
        have h1' : (n : Int) = 1 := by omega
        have hb1 : ((n : Int) == 1) = true := by rw [h1']; rfl
        have HN1 := hik h1
        clear h1 h1'
        go_enter Try.func20, Try.ntmps20
        go_wp2_with fail
        refine (sAsk7_any c n cap f g _ (hik (h.out.keep ((Chg.refl nob w).alloc _))) hn).mono ?_
        rintro e W1 ⟨rfl, k1⟩
        rw [HK.out]
        have K1 := hik (((Chg.refl nob w).alloc _).trans k1)
        have E1 := hik ((Elem.new w a b 38).keep k1)
        clear k1
        have a0 := E1.out.c0
        have a1 := E1.out.c1
        go_wp2_with (go_at_call 38; refine (sExtOK_any _ _ _).mono ?_; rintro e W2 ⟨he, k2⟩; rw [hr] at he; subst he; have K2 := hik (K1.out.trans k2); clear k2 a0 a1)
        go_ret2
        exact TbC.empty HC.out HM.out (by omega) (K2.out.alloc _)
      · have HC := hik (show fwc f g n a b = 0 by unfold fwc; rw [if_pos HC0.out, hr]; simp [h1])
        have HM := hik (show fwn f g n a b = n / 2 by unfold fwn; rw [HC.out]; rfl)
        have hb1 : ((n : Int) == 1) = false := by
          have : ¬ (n : Int) = 1 := by omega
          simpa using this
        have HEV := hik (show n = 2 * (n / 2) by
          cases m with
          | zero => exact absurd hnm h1
          | succ i =>
            rw [Nat.pow_succ] at hnm
            omega)
        clear hnm h1
        obtain ⟨r, hra, hrb, hre⟩ : ∃ r : El, a = r.v.1 ∧ b = r.v.2 ∧ elP a b = r := ⟨elP a b, by rw [elP_v hr], by rw [elP_v hr], rfl⟩
        subst hra hrb
        have HE := hik hre
        clear hre
        go_enter Try.func20, Try.ntmps20
        go_wp2_with fail
        refine (sAsk7_any c n cap f g _ (hik (h.out.keep ((Chg.refl nob w).alloc _))) hn).mono ?_
        rintro e W1 ⟨rfl, k1⟩
        rw [HK.out]
        have K1 := hik (((Chg.refl nob w).alloc _).trans k1)
        have E1 := hik ((Elem.new w r.v.1 r.v.2 38).keep k1)
        clear k1
        have a0 := E1.out.c0
        have a1 := E1.out.c1
        go_wp2_with (first
          | (go_at_call 38; refine (sExtOK_any _ _ _).mono ?_; rintro e W2 ⟨he, k2⟩; rw [hr] at he; subst he; have K2 := hik (K1.out.trans k2); have E2 := hik (E1.out.keep k2); clear k2 a0 a1; have a0 := E2.out.c0; have a1 := E2.out.c1)
          | (go_at_call 39; refine (sFoldW_any hm c n cap (n / 2) HN HEV.out (elF f g) r _ (hik (HP.out.keep K2.out))).mono ?_; rintro e W3 ⟨c', cap', rfl, h1c, h2c, ho, k3⟩; have K3 := hik (K2.out.trans k3); have HO := hik ho; clear k3 ho))
        go_ret2
        exact TbC.some HC.out HM.out h1c h2c (OwnE.low (HO.out.congr (fun i hi => by
          have e2 : fwE m (n / 2) (elF f g) r i = fwv f g n r.v.1 r.v.2 i := by unfold fwv; rw [HL.out, HE.out]
          unfold cA cB
          rw [e2]
          exact ⟨rfl, rfl⟩)) K2.out.size) K3.out
  · have HC := hik (show fwc f g n a b = k by unfold fwc; rw [if_neg (by rw [← hk]; exact h0), HK.out])
    have HM := hik (fwn_none HC.out h0)
    have hb : (k != 0) = true := bne_iff_ne.2 h0
    clear hk
    go_enter Try.func20, Try.ntmps20
    go_wp2_with fail
    refine (sAsk7_any c n cap f g _ (hik (h.out.keep ((Chg.refl nob w).alloc _))) hn).mono ?_
    rintro e W1 ⟨rfl, k1⟩
    rw [HK.out]
    have K1 := hik (((Chg.refl nob w).alloc _).trans k1)
    clear k1
    go_wp2
    go_ret2
    exact TbC.empty (k := k) HC.out HM.out (by omega) (K1.out.alloc _)
end Go.Proofs.Ytagjffjdoimhbap
