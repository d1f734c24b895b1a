/- The first row that fails: the model's contracts; and whether there is none: both sides'. -/
import Derived.Test.YtcajmdpopngpgabFrwX
import Derived.Test.YtcajmdpopngpgabRsmS
import Derived.Test.YtcajmdpopngpgabSysS
namespace Go.Proofs.Ytcajmdpopngpgab
open Go.ChangeShapes Go.WideShapes Go.ChangeAt Go.RowKit
set_option linter.unusedVariables false
set_option maxRecDepth 100000
set_option linter.unusedSimpArgs false

set_option maxHeartbeats 1000000 in
theorem sAsk10_any (s : Sy) (a : SyA) (c : Option Addr) (m cap : Nat) (z : Nat → Int) (w : World) (hv : Hid (SyV w s a)) (hs : s.small) (hz : Hid (RowV w c m (iv z))) (hm : m ≤ 1099511627776) :
    Calls Try.prog 28 #[.agg #[.int .i64 s.r, .int .i64 s.q, .int .i64 s.p, .slice a.cA s.nA a.pA, .slice a.cB s.nB a.pB, .slice a.cC s.nC a.pC], .slice c m cap] w fun e w' => e = .returned (.int .i64 (cfc s m z)) ∧ Chg nob w w' := by
  have KB := hik ((Chg.refl nob w).alloc (.cells #[.int .i64 s.r, .int .i64 s.q, .int .i64 s.p, .slice a.cA s.nA a.pA, .slice a.cB s.nB a.pB, .slice a.cC s.nC a.pC] 31))
  have BX := hik (cel6 (w := w.alloc (.cells #[.int .i64 s.r, .int .i64 s.q, .int .i64 s.p, .slice a.cA s.nA a.pA, .slice a.cB s.nB a.pB, .slice a.cC s.nC a.pC] 31)) (g := w.heap.size) (v0 := .int .i64 s.r) (v1 := .int .i64 s.q) (v2 := .int .i64 s.p) (v3 := .slice a.cA s.nA a.pA) (v4 := .slice a.cB s.nB a.pB) (v5 := .slice a.cC s.nC a.pC) (by go_simp) (by go_simp) (by go_simp) (by go_simp) (by go_simp) (by go_simp))
  by_cases h1 : 4096 < m
  · have h1' : (4096 : Int) < m := by omega
    go_enter Try.func28, Try.ntmps28
    go_wp2
    go_ret
    exact ⟨ret_int (by simp [cfc, h1]), KB.out⟩
  have h1' : ¬ (4096 : Int) < m := by omega
  have hcs := sSysOK_any s a (w.alloc (.cells #[.int .i64 s.r, .int .i64 s.q, .int .i64 s.p, .slice a.cA s.nA a.pA, .slice a.cB s.nB a.pB, .slice a.cC s.nC a.pC] 31)) (hik (hv.out.keep KB.out)) hs
  have hcn := fun W (k : Hid (Chg nob w W)) => sFields_any c m cap z W (hik (hz.out.keep k.out)) hm
  have HC := hik (show cfc s m z = if sysb s = false ∨ fds m z = false then 1 else if (m : Int) ≠ 2 ^ s.q.toNat then 8 else 0 by simp [cfc, h1])
  cases hsb : sysb s with
  | false =>
    rw [hsb] at hcs
    rw [hsb] at HC
    go_enter Try.func28, Try.ntmps28
    go_wp2_with fail
    refine hcs.mono ?_
    rintro e w1 ⟨rfl, k1⟩
    have K1 := hik (KB.out.trans k1)
    clear k1
    go_wp2
    go_ret
    exact ⟨ret_int (by rw [HC.out]; simp), K1.out⟩
  | true =>
  cases hfd : fds m z with
  | false =>
    rw [hsb] at hcs
    rw [hfd] at HC
    rw [hfd] at hcn
    go_enter Try.func28, Try.ntmps28
    go_wp2_with fail
    refine hcs.mono ?_
    rintro e w1 ⟨rfl, k1⟩
    have K1 := hik (KB.out.trans k1)
    clear k1
    go_wp2_with fail
    refine (hcn _ K1).mono ?_
    rintro e w2 ⟨rfl, hw⟩
    have hw := hw.symm
    subst hw
    go_wp2
    go_ret
    exact ⟨ret_int (by rw [HC.out]; simp), K1.out⟩
  | true =>
  obtain ⟨rr, mm, er, eq_, r1, r5, m1, m4, p0, p1, eA, eB, eC⟩ := sysb_parts hsb
  rw [hsb, hfd, eq_, show ((mm + 1 : Nat) : Int).toNat = mm + 1 by omega] at HC
  have hz2 := wp2 (mm + 1) (by omega)
  rw [hsb] at hcs
  rw [hfd] at hcn
  have EQ := hik eq_
  clear er r1 r5 p0 p1 eA eB eC hsb hfd eq_ hz2
  go_enter Try.func28, Try.ntmps28
  go_wp2_with fail
  refine hcs.mono ?_
  rintro e w1 ⟨rfl, k1⟩
  have K1 := hik (KB.out.trans k1)
  replace BX := hik (BX.out.keep k1)
  clear k1
  go_wp2_with fail
  refine (hcn _ K1).mono ?_
  rintro e w2 ⟨rfl, hw⟩
  have hw := hw.symm
  subst hw
  obtain ⟨x0, x1, x2, x3, x4, x5⟩ := BX.out.six
  rw [EQ.out] at x1
  have hz2 := wp2 (mm + 1) (by omega)
  go_wp2
  · rename_i hh
    have hne : ¬ (m : Int) = 2 ^ (mm + 1) := by simpa using hh
    go_ret
    exact ⟨ret_int (by rw [HC.out, if_neg (by simp), if_pos hne]), K1.out⟩
  · rename_i hh
    have heq : (m : Int) = 2 ^ (mm + 1) := by simpa using hh
    go_ret
    exact ⟨ret_int (by rw [HC.out, if_neg (by simp), if_neg (fun q => q heq)]), K1.out⟩

set_option maxHeartbeats 2000000 in
theorem sFailed_any (s : Sy) (a : SyA) (c : Option Addr) (m cap : Nat) (z : Nat → Int) (w : World) (hv : Hid (SyV w s a)) (hs : s.small) (hz : Hid (RowV w c m (iv z))) (h0 : cfc s m z = 0) :
    Calls Try.prog 29 #[.agg #[.int .i64 s.r, .int .i64 s.q, .int .i64 s.p, .slice a.cA s.nA a.pA, .slice a.cB s.nB a.pB, .slice a.cC s.nC a.pC], .slice c m cap] w fun e w' => e = .returned (.int .i64 (frj (frr s z))) ∧ Chg nob w w' := by
  have KB := hik ((Chg.refl nob w).alloc (.cells #[.int .i64 s.r, .int .i64 s.q, .int .i64 s.p, .slice a.cA s.nA a.pA, .slice a.cB s.nB a.pB, .slice a.cC s.nC a.pC] 31))
  have BX := hik (cel6 (w := w.alloc (.cells #[.int .i64 s.r, .int .i64 s.q, .int .i64 s.p, .slice a.cA s.nA a.pA, .slice a.cB s.nB a.pB, .slice a.cC s.nC a.pC] 31)) (g := w.heap.size) (v0 := .int .i64 s.r) (v1 := .int .i64 s.q) (v2 := .int .i64 s.p) (v3 := .slice a.cA s.nA a.pA) (v4 := .slice a.cB s.nB a.pB) (v5 := .slice a.cC s.nC a.pC) (by go_simp) (by go_simp) (by go_simp) (by go_simp) (by go_simp) (by go_simp))
  obtain ⟨m96, hsb, hfd, hml⟩ := cfc_parts h0
  obtain ⟨rr, mm, er, eq_, r1, r5, m1, m4, p0, p1, eA, eB, eC⟩ := sysb_parts hsb
  have hrt : s.r.toNat = rr := by omega
  have hqt : s.q.toNat = mm + 1 := by omega
  rw [hqt] at hml
  rw [← hml, ← pow_cast rr] at eA eB eC
  have hR32 := pow5 r5
  obtain ⟨nA2, wA⟩ := elm_parts eA
  obtain ⟨nB2, wB⟩ := elm_parts eB
  obtain ⟨nC2, wC⟩ := elm_parts eC
  have HR := hik (show frr s z = ffr (frb s z) (2 ^ rr) 0 by unfold frr; rw [hrt])
  have HFD := hik (fun i (hi : i < m) => fds_at hfd hi)
  have hpc := (pow_cast rr).symm
  have CA := fun W (k : Hid (Chg nob w W)) => sMulM_any a.cA s.nA a.pA s.XA rr (2 ^ rr) hpc (by omega) c m cap z W (hik (hv.out.A.keep k.out)) (hik (hz.out.keep k.out)) nA2 r5 (by omega) (hik wA) HFD
  have CB := fun W (k : Hid (Chg nob w W)) => sMulM_any a.cB s.nB a.pB s.XB rr (2 ^ rr) hpc (by omega) c m cap z W (hik (hv.out.B.keep k.out)) (hik (hz.out.keep k.out)) nB2 r5 (by omega) (hik wB) HFD
  have CC := fun W (k : Hid (Chg nob w W)) => sMulM_any a.cC s.nC a.pC s.XC rr (2 ^ rr) hpc (by omega) c m cap z W (hik (hv.out.C.keep k.out)) (hik (hz.out.keep k.out)) nC2 r5 (by omega) (hik wC) HFD
  rw [← er] at CA CB CC
  generalize hRg : 2 ^ rr = R at HR CA CB CC hR32
  clear h0 hsb hfd hml er eq_ r1 r5 m1 m4 p0 p1 eA eB eC hrt hqt hRg wA wB wC hpc
  go_enter Try.func29, Try.ntmps29
  go_wp2_with fail
  refine (CA _ KB).mono ?_
  rintro e w3 ⟨rfl, r6, k6⟩
  have K6 := hik (KB.out.trans k6)
  replace BX := hik (BX.out.keep k6)
  have RA : Hid (w3.rowIs (w.heap.size + 1) 3 R (iv (rsE s.XA z s.nA))) := hik (by simpa using r6)
  clear k6 r6
  obtain ⟨x0, x1, x2, x3, x4, x5⟩ := BX.out.six
  go_wp2_with fail
  refine (CB _ K6).mono ?_
  rintro e w4 ⟨rfl, r7, k7⟩
  have K7 := hik (K6.out.trans k7)
  replace BX := hik (BX.out.keep k7)
  replace RA := hik (rowIs_keep RA.out k7)
  have RB := hik r7
  clear k7 r7 x0 x1 x2 x3 x4 x5
  obtain ⟨x0, x1, x2, x3, x4, x5⟩ := BX.out.six
  go_wp2_with fail
  refine (CC _ K7).mono ?_
  rintro e w5 ⟨rfl, r8, k8⟩
  have K5 := hik (K7.out.trans k8)
  replace RA := hik (rowIs_keep RA.out k8)
  replace RB := hik (rowIs_keep RB.out k8)
  have RC := hik r8
  clear k8 r8 x0 x1 x2 x3 x4 x5 CA CB CC
  generalize w.heap.size + 1 = gA at RA ⊢
  generalize w3.heap.size = gB at RB ⊢
  generalize w4.heap.size = gC at RC ⊢
  go_wp2_with fail
  go_loopw [8] (fun s36 wr => ∃ k : Nat, k ≤ R ∧ s36 = .int .i64 k ∧ Hid (ffr (frb s z) R 0 = ffr (frb s z) (R - k) k) ∧ Hid (Chg nob w5 wr)) (fun s36 _ => R - (intOf s36).toNat)
  case atStart => exact ⟨0, Nat.zero_le _, rfl, hik rfl, hik (Chg.refl _ _)⟩
  case round =>
    obtain ⟨k, hk, rfl, HF, KW⟩ := hrel
    rename World => wr
    by_cases hlt : k < R
    · have hkn : ((k : Nat) : Int) < R := by omega
      have cA : wr.cell? ⟨gA, k, none⟩ = some (.int .i64 (rsE s.XA z s.nA k)) := (rowIs_keep RA.out KW.out).cell hlt
      have cB : wr.cell? ⟨gB, k, none⟩ = some (.int .i64 (rsE s.XB z s.nB k)) := (rowIs_keep RB.out KW.out).cell hlt
      have cC : wr.cell? ⟨gC, k, none⟩ = some (.int .i64 (rsE s.XC z s.nC k)) := (rowIs_keep RC.out KW.out).cell hlt
      obtain ⟨a0, a1⟩ := rsE_bd s.XA z s.nA k
      obtain ⟨b0, b1⟩ := rsE_bd s.XB z s.nB k
      have hfb : frb s z k = decide (rsE s.XA z s.nA k * rsE s.XB z s.nB k % 2130706433 ≠ rsE s.XC z s.nC k) := rfl
      generalize rsE s.XA z s.nA k = xa at cA a0 a1 hfb
      generalize rsE s.XB z s.nB k = xb at cB b0 b1 hfb
      generalize rsE s.XC z s.nC k = xc at cC hfb
      have hcm := fun W n => Calls.quiet_of_same (w := W) (n := n) (l01Mul_any xa xb (W.drewN n) a0 a1 b0 b1)
      by_cases hD : xa * xb % 2130706433 = xc
      · have HM := hik (ffr_miss hlt HF.out (by rw [hfb, hD]; simp))
        rw [hD] at hcm
        have hN : (xc != xc) = false := by simp
        clear hfb a0 a1 b0 b1 hD
        go_wp2_with fail
        go_quiet ((go_at_call 43; exact hcm _ _))
        go_wp2
        go_roundw
        case rel => exact ⟨k + 1, by omega, by go_num, HM, hik (KW.out.drewN _)⟩
        case measure => simp [intOf]; omega
      · have HM := hik (ffr_hit hlt HF.out (by rw [hfb]; simp [hD]))
        have KK := hik ((K5.out.trans KW.out).drewN)
        have hN : (xa * xb % 2130706433 != xc) = true := by simp [hD]
        generalize xa * xb % 2130706433 = D at hcm hN
        clear hfb a0 a1 b0 b1 hD
        go_wp2_with fail
        go_quiet ((go_at_call 43; exact hcm _ _))
        go_wp2
        go_ret
        exact ⟨ret_int (by rw [HR.out, HM.out]; rfl), KK.out _⟩
    · obtain rfl : k = R := by omega
      have HM := hik (ffr_end HF.out)
      have KK := hik (K5.out.trans KW.out)
      go_wp2
      go_ret
      exact ⟨ret_int (by rw [HR.out, HM.out]; rfl), KK.out⟩

set_option maxHeartbeats 2000000 in
theorem sFailedRow_any (s : Sy) (a : SyA) (c : Option Addr) (m cap : Nat) (z : Nat → Int) (w : World) (hv : Hid (SyV w s a)) (hs : s.small) (hz : Hid (RowV w c m (iv z))) (hm : m ≤ 1099511627776) :
    Calls Try.prog 15 #[.agg #[.int .i64 s.r, .int .i64 s.q, .int .i64 s.p, .slice a.cA s.nA a.pA, .slice a.cB s.nB a.pB, .slice a.cC s.nC a.pC], .slice c m cap] w fun e w' => e = .returned (.tuple #[.int .i64 (frv s m z).1, .int .i64 (frv s m z).2]) ∧ Chg nob w w' := by
  have KB := hik ((Chg.refl nob w).alloc (.cells #[.int .i64 s.r, .int .i64 s.q, .int .i64 s.p, .slice a.cA s.nA a.pA, .slice a.cB s.nB a.pB, .slice a.cC s.nC a.pC] 31))
  have BX := hik (cel6 (w := w.alloc (.cells #[.int .i64 s.r, .int .i64 s.q, .int .i64 s.p, .slice a.cA s.nA a.pA, .slice a.cB s.nB a.pB, .slice a.cC s.nC a.pC] 31)) (g := w.heap.size) (v0 := .int .i64 s.r) (v1 := .int .i64 s.q) (v2 := .int .i64 s.p) (v3 := .slice a.cA s.nA a.pA) (v4 := .slice a.cB s.nB a.pB) (v5 := .slice a.cC s.nC a.pC) (by go_simp) (by go_simp) (by go_simp) (by go_simp) (by go_simp) (by go_simp))
  by_cases h1 : 4096 < m
  · have h1' : (4096 : Int) < m := by omega
    have HV := hik (show frv s m z = (0, 2) by simp [frv, cfc, h1])
    go_enter Try.func15, Try.ntmps15
    go_wp2
    go_ret2
    exact ⟨by rw [HV.out]; rfl, KB.out⟩
  have h1' : ¬ (4096 : Int) < m := by omega
  have hco := sAsk10_any s a c m cap z (w.alloc (.cells #[.int .i64 s.r, .int .i64 s.q, .int .i64 s.p, .slice a.cA s.nA a.pA, .slice a.cB s.nB a.pB, .slice a.cC s.nC a.pC] 31)) (hik (hv.out.keep KB.out)) hs (hik (hz.out.keep KB.out)) hm
  by_cases h0 : cfc s m z = 0
  · have HV := hik (show frv s m z = frm (frr s z) by unfold frv; rw [if_pos h0])
    have hcf := fun W (k : Hid (Chg nob w W)) => sFailed_any s a c m cap z W (hik (hv.out.keep k.out)) hs (hik (hz.out.keep k.out)) h0
    rw [h0] at hco
    clear h0
    cases hfr : frr s z with
    | none =>
      rw [hfr] at hcf HV
      have hcf : ∀ W, Hid (Chg nob w W) → Calls Try.prog 29 #[.agg #[.int .i64 s.r, .int .i64 s.q, .int .i64 s.p, .slice a.cA s.nA a.pA, .slice a.cB s.nB a.pB, .slice a.cC s.nC a.pC], .slice c m cap] W fun e w' => e = .returned (.int .i64 (-1)) ∧ Chg nob W w' := hcf
      clear hfr
      go_enter Try.func15, Try.ntmps15
      go_wp2_with fail
      refine hco.mono ?_
      rintro e w1 ⟨rfl, k1⟩
      have K1 := hik (KB.out.trans k1)
      replace BX := hik (BX.out.keep k1)
      clear k1 hco
      obtain ⟨x0, x1, x2, x3, x4, x5⟩ := BX.out.six
      go_wp2_with fail
      refine (hcf _ K1).mono ?_
      rintro e w2 ⟨rfl, k2⟩
      have K2 := hik (K1.out.trans k2)
      clear k2 x0 x1 x2 x3 x4 x5
      go_wp2
      go_ret2
      exact ⟨by rw [HV.out]; rfl, K2.out⟩
    | some i =>
      rw [hfr] at hcf HV
      have hcf : ∀ W, Hid (Chg nob w W) → Calls Try.prog 29 #[.agg #[.int .i64 s.r, .int .i64 s.q, .int .i64 s.p, .slice a.cA s.nA a.pA, .slice a.cB s.nB a.pB, .slice a.cC s.nC a.pC], .slice c m cap] W fun e w' => e = .returned (.int .i64 (i : Int)) ∧ Chg nob W w' := hcf
      have hneg : ¬ (i : Int) < 0 := by omega
      clear hfr
      go_enter Try.func15, Try.ntmps15
      go_wp2_with fail
      refine hco.mono ?_
      rintro e w1 ⟨rfl, k1⟩
      have K1 := hik (KB.out.trans k1)
      replace BX := hik (BX.out.keep k1)
      clear k1 hco
      obtain ⟨x0, x1, x2, x3, x4, x5⟩ := BX.out.six
      go_wp2_with fail
      refine (hcf _ K1).mono ?_
      rintro e w2 ⟨rfl, k2⟩
      have K2 := hik (K1.out.trans k2)
      clear k2 x0 x1 x2 x3 x4 x5
      go_wp2
      go_ret2
      exact ⟨by rw [HV.out]; rfl, K2.out⟩
  · have HV := hik (show frv s m z = (0, cfc s m z) by unfold frv; rw [if_neg h0])
    generalize cfc s m z = C at hco h0 HV
    go_enter Try.func15, Try.ntmps15
    go_wp2_with fail
    refine hco.mono ?_
    rintro e w1 ⟨rfl, k1⟩
    have K1 := hik (KB.out.trans k1)
    clear k1
    go_wp2
    go_ret2
    exact ⟨by rw [HV.out]; rfl, K1.out⟩
end Go.Proofs.Ytcajmdpopngpgab
