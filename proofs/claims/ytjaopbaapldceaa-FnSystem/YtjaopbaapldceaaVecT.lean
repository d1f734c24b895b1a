/- The vector of a system: the model at every argument. -/
import Derived.Test.YtjaopbaapldceaaVecS
import Derived.Test.YtjaopbaapldceaaMulS
namespace Go.Proofs.Ytjaopbaapldceaa
open Go.ChangeShapes Go.WideShapes Go.ChangeAt Go.RowKit
set_option linter.unusedVariables false
set_option maxRecDepth 100000
set_option linter.unusedSimpArgs false

set_option maxHeartbeats 4000000 in
theorem sVecX_any (s : Sy) (a : SyA) (c : Option Addr) (np cap : Nat) (P : Nat → Int) (d : Option Addr) (nr cad : Nat) (R : Nat → Int) (w : World) (hv : Hid (SyV w s a)) (hs : s.small) (hp : Hid (RowV w c np (iv P))) (hr : Hid (RowV w d nr (iv R))) (hnp : np ≤ 1099511627776) (hnr : nr ≤ 1099511627776) :
    Calls Try.prog 8 #[.agg #[.int .i64 s.r, .int .i64 s.q, .int .i64 s.p, .slice a.cA s.nA a.pA, .slice a.cB s.nB a.pB, .slice a.cC s.nC a.pC], .slice c np cap, .slice d nr cad] w fun e w' => MmAns w (vcc s np P nr R) (2 ^ s.q.toNat) (vcv (2 ^ (s.q.toNat - 1)) np P nr R) e w' := by
  have KB := hik ((Chg.refl nob w).alloc (.cells #[.int .i64 s.r, .int .i64 s.q, .int .i64 s.p, .slice a.cA s.nA a.pA, .slice a.cB s.nB a.pB, .slice a.cC s.nC a.pC] 25))
  have BX := hik (cel6 (w := w.alloc (.cells #[.int .i64 s.r, .int .i64 s.q, .int .i64 s.p, .slice a.cA s.nA a.pA, .slice a.cB s.nB a.pB, .slice a.cC s.nC a.pC] 25)) (g := w.heap.size) (v0 := .int .i64 s.r) (v1 := .int .i64 s.q) (v2 := .int .i64 s.p) (v3 := .slice a.cA s.nA a.pA) (v4 := .slice a.cB s.nB a.pB) (v5 := .slice a.cC s.nC a.pC) (by go_simp) (by go_simp) (by go_simp) (by go_simp) (by go_simp) (by go_simp))
  by_cases h1 : 4096 < np
  · have h1' : (4096 : Int) < np := by omega
    have HC := hik (show vcc s np P nr R = 2 by simp [vcc, h1])
    go_enter Try.func8, Try.ntmps8
    go_wp2
    go_ret2
    exact MmAns.no HC.out (by omega) rfl (KB.out.alloc (.cells #[] 3))
  have h1' : ¬ (4096 : Int) < np := by omega
  by_cases h2 : 4096 < nr
  · have h2' : (4096 : Int) < nr := by omega
    have HC := hik (show vcc s np P nr R = 2 by simp [vcc, h2])
    go_enter Try.func8, Try.ntmps8
    go_wp2
    go_ret2
    exact MmAns.no HC.out (by omega) rfl (KB.out.alloc (.cells #[] 3))
  have h2' : ¬ (4096 : Int) < nr := by omega
  have hC : vcc s np P nr R = if sysb s = false ∨ fds np P = false ∨ fds nr R = false then 1 else if (np : Int) ≠ s.p ∨ (2 : Int) ^ (s.q.toNat - 1) < nr then 8 else 0 := by unfold vcc; rw [if_neg (by omega)]
  have hcs := sSysOK_any s a (w.alloc (.cells #[.int .i64 s.r, .int .i64 s.q, .int .i64 s.p, .slice a.cA s.nA a.pA, .slice a.cB s.nB a.pB, .slice a.cC s.nC a.pC] 25)) (hik (hv.out.keep KB.out)) hs
  have hcp := fun W (k : Hid (Chg nob w W)) => sFields_any c np cap P W (hik (hp.out.keep k.out)) hnp
  have hcr := fun W (k : Hid (Chg nob w W)) => sFields_any d nr cad R W (hik (hr.out.keep k.out)) hnr
  cases h3 : sysb s with
  | false =>
    have HC := hik (show vcc s np P nr R = 1 by rw [hC, if_pos (.inl h3)])
    rw [h3] at hcs
    clear hC
    go_enter Try.func8, Try.ntmps8
    go_wp2_with fail
    refine hcs.mono ?_
    rintro e w1 ⟨rfl, k1⟩
    have K1 := hik (KB.out.trans k1)
    replace BX := hik (BX.out.keep k1)
    clear k1
    go_wp2
    go_ret2
    exact MmAns.no HC.out (by omega) rfl (K1.out.alloc (.cells #[] 3))
  | true =>
  cases h4 : fds np P with
  | false =>
    have HC := hik (show vcc s np P nr R = 1 by rw [hC, if_pos (.inr (.inl h4))])
    rw [h3] at hcs
    rw [h4] at hcp
    clear hC
    go_enter Try.func8, Try.ntmps8
    go_wp2_with fail
    refine hcs.mono ?_
    rintro e w1 ⟨rfl, k1⟩
    have K1 := hik (KB.out.trans k1)
    replace BX := hik (BX.out.keep k1)
    clear k1
    go_wp2_with fail
    refine (hcp _ K1).mono ?_
    rintro e w2 ⟨rfl, hw⟩
    have hw := hw.symm
    subst hw
    go_wp2
    go_ret2
    exact MmAns.no HC.out (by omega) rfl (K1.out.alloc (.cells #[] 3))
  | true =>
  cases h5 : fds nr R with
  | false =>
    have HC := hik (show vcc s np P nr R = 1 by rw [hC, if_pos (.inr (.inr h5))])
    rw [h3] at hcs
    rw [h4] at hcp
    rw [h5] at hcr
    clear hC
    go_enter Try.func8, Try.ntmps8
    go_wp2_with fail
    refine hcs.mono ?_
    rintro e w1 ⟨rfl, k1⟩
    have K1 := hik (KB.out.trans k1)
    replace BX := hik (BX.out.keep k1)
    clear k1
    go_wp2_with fail
    refine (hcp _ K1).mono ?_
    rintro e w2 ⟨rfl, hw⟩
    have hw := hw.symm
    subst hw
    go_wp2_with fail
    refine (hcr _ K1).mono ?_
    rintro e w2 ⟨rfl, hw⟩
    have hw := hw.symm
    subst hw
    go_wp2
    go_ret2
    exact MmAns.no HC.out (by omega) rfl (K1.out.alloc (.cells #[] 3))
  | true =>
  obtain ⟨rr, mm, er, eq_, r1, r5, m1, m4, p0, p1, eA, eB, eC⟩ := sysb_parts h3
  rw [h3] at hcs
  rw [h4] at hcp
  rw [h5] at hcr
  rw [if_neg (by rw [h3, h4, h5]; simp), show s.q.toNat = mm + 1 by omega, Nat.add_sub_cancel] at hC
  rw [show s.q.toNat = mm + 1 by omega, Nat.add_sub_cancel]
  have EQ := hik eq_
  clear er r1 r5 eA eB eC h3 h4 h5 eq_
  by_cases h6 : ¬ (np : Int) = s.p
  · have HC := hik (show vcc s np P nr R = 8 by rw [hC, if_pos (.inl h6)])
    clear hC p0 p1
    go_enter Try.func8, Try.ntmps8
    go_wp2_with fail
    refine hcs.mono ?_
    rintro e w1 ⟨rfl, k1⟩
    have K1 := hik (KB.out.trans k1)
    replace BX := hik (BX.out.keep k1)
    clear k1
    go_wp2_with fail
    refine (hcp _ K1).mono ?_
    rintro e w2 ⟨rfl, hw⟩
    have hw := hw.symm
    subst hw
    go_wp2_with fail
    refine (hcr _ K1).mono ?_
    rintro e w2 ⟨rfl, hw⟩
    have hw := hw.symm
    subst hw
    obtain ⟨x0, x1, x2, x3, x4, x5⟩ := BX.out.six
    go_wp2
    go_ret2
    exact MmAns.no HC.out (by omega) rfl (K1.out.alloc (.cells #[] 3))
  replace h6 : (np : Int) = s.p := by omega

  have hpc := pow_cast mm
  have h16 := pow4 m4
  have hz := wp2 mm (by omega)
  by_cases h7 : (2 : Int) ^ mm < nr
  · have HC := hik (show vcc s np P nr R = 8 by rw [hC, if_pos (.inr h7)])
    clear hC p0 p1
    go_enter Try.func8, Try.ntmps8
    go_wp2_with fail
    refine hcs.mono ?_
    rintro e w1 ⟨rfl, k1⟩
    have K1 := hik (KB.out.trans k1)
    replace BX := hik (BX.out.keep k1)
    clear k1
    go_wp2_with fail
    refine (hcp _ K1).mono ?_
    rintro e w2 ⟨rfl, hw⟩
    have hw := hw.symm
    subst hw
    go_wp2_with fail
    refine (hcr _ K1).mono ?_
    rintro e w2 ⟨rfl, hw⟩
    have hw := hw.symm
    subst hw
    obtain ⟨x0, x1, x2, x3, x4, x5⟩ := BX.out.six
    rw [EQ.out, show ((mm + 1 : Nat) : Int) = (mm : Int) + 1 by omega] at x1
    rw [← h6] at x2
    go_wp2
    go_ret2
    exact MmAns.no HC.out (by omega) rfl (K1.out.alloc (.cells #[] 3))
  have HC := hik (show vcc s np P nr R = 0 by rw [hC, if_neg (by rintro (q | q); exact q h6; exact h7 q)])
  rw [← h6] at p1
  have hvv := fun v0 v2 v3 v4 v5 W (k : Hid (Chg nob w W)) => sVec_any mm (2 ^ mm) hpc.symm h16 m4 v0 v2 v3 v4 v5 c np cap P d nr cad R W (hik (hp.out.keep k.out)) (hik (hr.out.keep k.out)) (by omega) (by omega)
  have HP2 := hik (show 2 ^ (mm + 1) = 2 * 2 ^ mm by rw [Nat.pow_succ]; omega)
  rw [HP2.out]
  generalize 2 ^ mm = H at hvv
  clear hC p0 p1 hpc h16
  go_enter Try.func8, Try.ntmps8
  go_wp2_with fail
  refine hcs.mono ?_
  rintro e w1 ⟨rfl, k1⟩
  have K1 := hik (KB.out.trans k1)
  replace BX := hik (BX.out.keep k1)
  clear k1
  go_wp2_with fail
  refine (hcp _ K1).mono ?_
  rintro e w2 ⟨rfl, hw⟩
  have hw := hw.symm
  subst hw
  go_wp2_with fail
  refine (hcr _ K1).mono ?_
  rintro e w2 ⟨rfl, hw⟩
  have hw := hw.symm
  subst hw
  obtain ⟨x0, x1, x2, x3, x4, x5⟩ := BX.out.six
  rw [EQ.out, show ((mm + 1 : Nat) : Int) = (mm : Int) + 1 by omega] at x1
  rw [← h6] at x2
  go_wp2_with fail
  refine (hvv _ _ _ _ _ _ K1).mono ?_
  rintro e w3 ⟨rfl, r3, k3⟩
  have K3 := hik (K1.out.trans k3)
  have R3 := hik r3
  clear k3 r3 x0 x1 x2 x3 x4 x5
  go_wp2
  go_ret2
  exact MmAns.yes HC.out (Nat.le_succ_of_le K1.out.size) rfl R3.out K3.out

end Go.Proofs.Ytjaopbaapldceaa
