/- What the program's SumOf and RoundOf answer: contracts. Conditions: lists of lists that can be read, of at most 2 to the 40. -/
import Derived.Test.YtgiefpipflcbgaqTbsX
namespace Go.Proofs.Ytgiefpipflcbgaq
open Go.ChangeShapes Go.WideShapes Go.ChangeAt Go.RowKit
set_option linter.unusedVariables false
set_option maxRecDepth 100000
set_option linter.unusedSimpArgs false

theorem L0_le {K : Int} {n : Nat} {L : Nat → Nat} {f g : Nat → Nat → Int} (h : ac8 K n L f g = 0) : L 0 ≤ 64 ∧ ∃ i, i ≤ 6 ∧ L 0 = 2 ^ i := by
  obtain ⟨k, _, hk, hn, htk⟩ := ac8_ok h
  obtain ⟨i, hi, e⟩ := p6_ex (tok_p6 (htk 0 (by rcases hk with rfl | rfl <;> omega)).1).1
  exact ⟨by rw [e]; exact pow_le6 hi, i, hi, e⟩
theorem fit_in {t : Nat → Nat → El} {N j i : Nat} (hi : i < N) : (fun i => fitE (t i) N zE) j i = t j i := by
  show (if i < N then t j i else zE i) = t j i
  rw [if_pos hi]

set_option maxHeartbeats 2000000 in
theorem sumX_any (K : Int) (c : Option Addr) (n cap : Nat) (A : Nat → Option Addr) (L C : Nat → Nat) (f g : Nat → Nat → Int) (w : World) (h : Hid (RowsV w c n A L C f g)) (hL : Hid (∀ i, i < n → L i ≤ 1099511627776)) (hn : n ≤ 1099511627776) :
    Calls Try.prog 10 #[.int .i64 K, .slice c n cap] w fun e w' => e = .returned (.tuple #[.agg #[.int .i64 (sov K n L f g).v.1, .int .i64 (sov K n L f g).v.2], .int .i64 (ac8 K n L f g)]) ∧ Chg nob w w' := by
  have E0 := hik (ElB.zero w)
  have G0 := hik ((Chg.refl nob w).alloc (.cells #[.int .i64 0, .int .i64 0] 25))
  obtain ⟨q, hq⟩ : ∃ q, q = ac8 K n L f g := ⟨_, rfl⟩
  have HQ := hik hq.symm
  obtain ⟨V, hV⟩ : ∃ V, V = sov K n L f g := ⟨_, rfl⟩
  have HV := hik hV
  rw [← hV, ← hq]
  clear hV hq
  go_enter Try.func10, Try.ntmps10
  go_wp2_with fail
  generalize hE : w.alloc (.cells #[.int .i64 0, .int .i64 0] 25) = W0 at E0 G0 ⊢
  clear hE
  refine (tabs_any K c n cap A L C f g _ (hik (RowsV.keep h.out G0.out)) hL hn).mono ?_
  rintro e W1 (⟨q', hq', h0, rfl, k1⟩ | ⟨hq', k, t, d, ff, b, hKk, hKD, rfl, hCb, hb, k1⟩)
  · obtain rfl : q = q' := HQ.out.symm.trans hq'
    obtain rfl : V = El.zr := by rw [HV.out]; unfold sov; rw [if_neg (by rw [HQ.out]; exact h0)]
    have hb : (q != 0) = true := bne_iff_ne.2 h0
    have E2 := hik ((E0.out.keep k1).keep ((Chg.refl nob W1).alloc (.cells #[.int .i64 0, .int .i64 0, .nilFunc] 51)))
    have G2 := hik ((G0.out.trans k1).alloc (.cells #[.int .i64 0, .int .i64 0, .nilFunc] 51))
    clear k1 E0 G0 hq' h0
    go_upto_region 2 with fail
    generalize hE : W1.alloc (.cells #[.int .i64 0, .int .i64 0, .nilFunc] 51) = W2 at E2 G2 ⊢
    clear hE
    have c0 : W2.cell? ⟨w.heap.size, 0, none⟩ = some (.int .i64 0) := E2.out.c0
    have c1 : W2.cell? ⟨w.heap.size, 1, none⟩ = some (.int .i64 0) := E2.out.c1
    have f0 := E2.out.fz 0
    have f1 := E2.out.fz 1
    go_wp2
    have u0 : ((W2.setCell ⟨w.heap.size, 0, none⟩ (.int .i64 0)).setCell ⟨w.heap.size, 1, none⟩ (.int .i64 0)).cell? ⟨w.heap.size, 0, none⟩ = some (.int .i64 0) := (E2.out.set El.zr).c0
    have u1 : ((W2.setCell ⟨w.heap.size, 0, none⟩ (.int .i64 0)).setCell ⟨w.heap.size, 1, none⟩ (.int .i64 0)).cell? ⟨w.heap.size, 1, none⟩ = some (.int .i64 0) := (E2.out.set El.zr).c1
    exact bodyPost_ret (v := .tuple #[.agg #[.int .i64 0, .int .i64 0], .int .i64 q]) (by simp [results, Try.results10, go_sem, u0, u1]) rfl ⟨rfl, chg2_at G2.out w.heap.size (fun l => absurd l (by omega)) 0 1 (.int .i64 0) (.int .i64 0)⟩
  · obtain rfl : q = 0 := HQ.out.symm.trans hq'
    obtain ⟨h64, _⟩ := L0_le hq'
    subst hKk
    have hnk : n = 2 * k := by
      obtain ⟨k', e, _, e2, _⟩ := ac8_ok hq'
      omega
    have hk12 : k = 1 ∨ k = 2 := by rcases hKD with ⟨h, _⟩ | ⟨h, _⟩ <;> omega
    have HVV := hik (show V = sms k (fun i => fitE (elF (f i) (g i)) (L 0) zE) (L 0) by
      rw [HV.out]
      unfold sov
      rw [if_pos hq', Int.toNat_natCast]
      exact sms_congr hk12 (fun j i _ hi => (fit_in (t := fun i => elF (f i) (g i)) hi).symm))
    obtain ⟨bc, hbc⟩ : ∃ bc, bc = W1.heap.size := ⟨_, rfl⟩
    have E2 := hik ((E0.out.keep k1).keep ((Chg.refl nob W1).alloc (.cells #[.int .i64 t, .int .i64 d, .func (.func ff) #[] #[]] 51)))
    have C2 := hik (show CmB (W1.alloc (.cells #[.int .i64 t, .int .i64 d, .func (.func ff) #[] #[]] 51)) bc t d (.func (.func ff) #[] #[]) from by rw [hbc]; exact CmB.new W1 t d _)
    have B2 := hik (hCb.keep ((Chg.refl nob W1).alloc (.cells #[.int .i64 t, .int .i64 d, .func (.func ff) #[] #[]] 51)))
    have G2 := hik ((G0.out.trans k1).alloc (.cells #[.int .i64 t, .int .i64 d, .func (.func ff) #[] #[]] 51))
    have QS := hik (fun (W : World) (hw : Hid (Cbs W b n (fun _ => L 0) (fun i => fitE (elF (f i) (g i)) (L 0) zE))) => sum_any hKD b n (L 0) hnk h64 (fun i => fitE (elF (f i) (g i)) (L 0) zE) W hw)
    rw [← HVV.out] at QS
    clear k1 E0 G0 hCb hKD hnk hk12 HVV hq'
    go_upto_region 2 with fail
    rw [← hbc]
    generalize hE : W1.alloc (.cells #[.int .i64 t, .int .i64 d, .func (.func ff) #[] #[]] 51) = W2 at E2 G2 C2 B2 ⊢
    clear hE hbc hb
    have m0 := C2.out.c0
    have m1 := C2.out.c1
    have m2 := C2.out.c2
    go_wp2_with fail
    refine (QS.out _ B2).mono ?_
    rintro e W3 ⟨rfl, k3⟩
    have E3 := hik (E2.out.keep k3)
    have G3 := hik (G2.out.trans k3)
    clear k3 E2 G2 m0 m1 m2
    have c0 : W3.cell? ⟨w.heap.size, 0, none⟩ = some (.int .i64 0) := E3.out.c0
    have c1 : W3.cell? ⟨w.heap.size, 1, none⟩ = some (.int .i64 0) := E3.out.c1
    have f0 := E3.out.fz 0
    have f1 := E3.out.fz 1
    go_wp2
    have u0 := (E3.out.set V).c0
    have u1 := (E3.out.set V).c1
    exact bodyPost_ret (v := .tuple #[.agg #[.int .i64 V.v.1, .int .i64 V.v.2], .int .i64 0]) (by simp [results, Try.results10, go_sem, u0, u1]) rfl ⟨rfl, chg2_at G3.out w.heap.size (fun l => absurd l (by omega)) 0 1 _ _⟩

set_option maxHeartbeats 2000000 in
theorem roundX_any (K : Int) (c : Option Addr) (n cap : Nat) (A : Nat → Option Addr) (L C : Nat → Nat) (f g : Nat → Nat → Int) (w : World) (h : Hid (RowsV w c n A L C f g)) (hL : Hid (∀ i, i < n → L i ≤ 1099511627776)) (hn : n ≤ 1099511627776) :
    Calls Try.prog 14 #[.int .i64 K, .slice c n cap] w fun e w' => TbC w (rc8 K n L f g) (rn8 K n L f g) (rv8 K L f g) e w' := by
  go_enter Try.func14, Try.ntmps14
  go_wp2_with fail
  refine (tabs_any K c n cap A L C f g _ h hL hn).mono ?_
  rintro e W1 (⟨q', hq', h0, rfl, k1⟩ | ⟨hq', k, t, d, ff, b, hKk, hKD, rfl, hCb, hb, k1⟩)
  · have HC := hik (show rc8 K n L f g = q' by unfold rc8; rw [if_neg (by rw [hq']; exact h0), hq'])
    have HM := hik (show rn8 K n L f g = 0 by unfold rn8; rw [if_neg (by rw [HC.out]; exact h0)])
    have hb : (q' != 0) = true := bne_iff_ne.2 h0
    have G2 := hik (k1.alloc (.cells #[.int .i64 0, .int .i64 0, .nilFunc] 51))
    clear k1 hq' h0
    go_wp2
    go_ret2
    exact TbC.none HC.out HM.out G2.out
  · obtain ⟨h64, i6, hi6, e6⟩ := L0_le hq'
    subst hKk
    have hnk : n = 2 * k := by
      obtain ⟨k', e, _, e2, _⟩ := ac8_ok hq'
      omega
    have hk12 : k = 1 ∨ k = 2 := by rcases hKD with ⟨h, _⟩ | ⟨h, _⟩ <;> omega
    have hn0 : 0 < n := by rcases hk12 with rfl | rfl <;> omega
    have hk2 : k ≤ 2 := by omega
    have hn0' : (0 : Int) < (n : Int) := by omega
    obtain ⟨bc, hbc⟩ : ∃ bc, bc = W1.heap.size := ⟨_, rfl⟩
    have C2 := hik (show CmB (W1.alloc (.cells #[.int .i64 t, .int .i64 d, .func (.func ff) #[] #[]] 51)) bc t d (.func (.func ff) #[] #[]) from by rw [hbc]; exact CmB.new W1 t d _)
    have B2 := hik (hCb.keep ((Chg.refl nob W1).alloc (.cells #[.int .i64 t, .int .i64 d, .func (.func ff) #[] #[]] 51)))
    have G2 := hik (k1.alloc (.cells #[.int .i64 t, .int .i64 d, .func (.func ff) #[] #[]] 51))
    by_cases hL1 : L 0 = 1
    · have HC := hik (show rc8 (k : Int) n L f g = 8 by unfold rc8; rw [if_pos hq', if_pos hL1])
      have HM := hik (show rn8 (k : Int) n L f g = 0 by unfold rn8; rw [HC.out]; rfl)
      have hb1 : ((L 0 : Int) == 1) = true := by rw [hL1]; rfl
      have HL1 := hik hL1
      clear hCb hKD hnk hk12 hq' hL1 k1 e6
      go_upto_region 2 with fail
      rw [← hbc]
      generalize hE : W1.alloc (.cells #[.int .i64 t, .int .i64 d, .func (.func ff) #[] #[]] 51) = W2 at G2 C2 B2 ⊢
      clear hE hbc hb
      have x0 : W2.cell? ⟨b, 0, none⟩ = some (.int .i64 (L 0 : Int)) := by have q := B2.out.c hn0; simpa using q
      go_wp2
      go_ret2
      exact TbC.none HC.out HM.out G2.out
    · have HC := hik (show rc8 (k : Int) n L f g = 0 by unfold rc8; rw [if_pos hq', if_neg hL1])
      have HM := hik (show rn8 (k : Int) n L f g = k + 2 by unfold rn8; rw [if_pos HC.out, Int.toNat_natCast])
      have hb1 : ((L 0 : Int) == 1) = false := by
        have : ¬ (L 0 : Int) = 1 := by omega
        simpa using this
      have h2 : L 0 = 2 * (L 0 / 2) := by
        cases i6 with
        | zero => exact absurd e6 hL1
        | succ j => rw [e6, Nat.pow_succ]; omega
      have HRV := hik (show ∀ x, rdX k (fun i => fitE (elF (f i) (g i)) (L 0) zE) (L 0 / 2) x = rv8 (k : Int) L f g x from fun x => by
        rw [rdX_rd hk12 (t := fun i => elF (f i) (g i)) (fun j i _ hi => fit_in (t := fun i => elF (f i) (g i)) (N := L 0) (by omega))]
        unfold rv8
        rw [Int.toNat_natCast])
      have QR := hik (fun (W : World) (hw : Hid (Cbs W b n (fun _ => L 0) (fun i => fitE (elF (f i) (g i)) (L 0) zE))) => round_any hKD b n (L 0) hnk h64 (fun i => fitE (elF (f i) (g i)) (L 0) zE) W hw)
      clear hCb hKD hnk hk12 hq' hL1 h2 k1 e6
      go_upto_region 2 with fail
      rw [← hbc]
      generalize hE : W1.alloc (.cells #[.int .i64 t, .int .i64 d, .func (.func ff) #[] #[]] 51) = W2 at G2 C2 B2 ⊢
      clear hE hbc hb
      have x0 : W2.cell? ⟨b, 0, none⟩ = some (.int .i64 (L 0 : Int)) := by have q := B2.out.c hn0; simpa using q
      have m0 := C2.out.c0
      have m1 := C2.out.c1
      have m2 := C2.out.c2
      go_wp2_with fail
      refine (QR.out _ B2).mono ?_
      rintro e W3 ⟨gg, rfl, hR, hg, k3⟩
      have R3 := hik (hR.congr (fun x _ => HRV.out x))
      have G3 := hik (G2.out.trans k3)
      have hg2 : w.heap.size ≤ gg := Nat.le_trans G2.out.size hg
      clear hR hg k3 m0 m1 m2 x0
      go_wp2
      go_ret2
      exact TbC.some HC.out HM.out (Nat.le_refl _) (by omega) (R3.out.own hg2) G3.out
end Go.Proofs.Ytgiefpipflcbgaq
