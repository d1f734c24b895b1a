/- The first row that fails: the program's contracts. -/
import Derived.Test.YtjaopbaapldceaaBzas
import Derived.Test.YtjaopbaapldceaaRsmX
namespace Go.Proofs.Ytjaopbaapldceaa
open Go.ChangeShapes Go.WideShapes Go.ChangeAt Go.RowKit
set_option linter.unusedVariables false
set_option maxRecDepth 100000
set_option linter.unusedSimpArgs false

set_option maxHeartbeats 4000000 in
theorem frCode_any (s : Sy) (a : SyA) (c : Option Addr) (m cap : Nat) (z : Nat → Int) (w : World) (hv : Hid (SyV w s a)) (hs : s.small) (hz : Hid (RowV w c m (iv z))) (hm : m ≤ 1099511627776) :
    Calls Try.prog 33 #[.agg #[.int .i64 s.r, .int .i64 s.q, .int .i64 s.p, .slice a.cA s.nA a.pA, .slice a.cB s.nB a.pB, .slice a.cC s.nC a.pC], .slice c m cap] w fun e w' => e = .returned (.int .i64 (cfc s m z)) ∧ Chg nob w w' := by
  have KB := hik ((Chg.refl nob w).alloc (.cells #[.int .i64 s.r, .int .i64 s.q, .int .i64 s.p, .slice a.cA s.nA a.pA, .slice a.cB s.nB a.pB, .slice a.cC s.nC a.pC] 25))
  have BX := hik (cel6 (w := w.alloc (.cells #[.int .i64 s.r, .int .i64 s.q, .int .i64 s.p, .slice a.cA s.nA a.pA, .slice a.cB s.nB a.pB, .slice a.cC s.nC a.pC] 25)) (g := w.heap.size) (v0 := .int .i64 s.r) (v1 := .int .i64 s.q) (v2 := .int .i64 s.p) (v3 := .slice a.cA s.nA a.pA) (v4 := .slice a.cB s.nB a.pB) (v5 := .slice a.cC s.nC a.pC) (by go_simp) (by go_simp) (by go_simp) (by go_simp) (by go_simp) (by go_simp))
  by_cases h1 : 4096 < m
  · have h1' : (4096 : Int) < m := by omega
    go_enter Try.func33, Try.ntmps33
    go_wp2
    go_ret
    exact ⟨ret_int (by simp [cfc, h1]), KB.out⟩
  have h1' : ¬ (4096 : Int) < m := by omega
  have hcs := sysOK_any s a (w.alloc (.cells #[.int .i64 s.r, .int .i64 s.q, .int .i64 s.p, .slice a.cA s.nA a.pA, .slice a.cB s.nB a.pB, .slice a.cC s.nC a.pC] 25)) (hik (hv.out.keep KB.out)) hs
  have hcn := fun W (k : Hid (Chg nob w W)) => numsOK_any c m cap z W (hik (hz.out.keep k.out)) hm
  have HC := hik (show cfc s m z = if sysb s = false ∨ fds m z = false then 1 else if (m : Int) ≠ 2 ^ s.q.toNat then 8 else 0 by simp [cfc, h1])
  cases hsb : sysb s with
  | false =>
    rw [hsb] at hcs
    rw [hsb] at HC
    go_enter Try.func33, Try.ntmps33
    go_wp2_with fail
    refine hcs.mono ?_
    rintro e w1 ⟨rfl, k1⟩
    have K1 := hik (KB.out.trans k1)
    clear k1
    go_wp2
    go_ret
    exact ⟨ret_int (by rw [HC.out]; simp), K1.out⟩
  | true =>
  cases hfd : fds m z with
  | false =>
    rw [hsb] at hcs
    rw [hfd] at HC
    rw [hfd] at hcn
    go_enter Try.func33, Try.ntmps33
    go_wp2_with fail
    refine hcs.mono ?_
    rintro e w1 ⟨rfl, k1⟩
    have K1 := hik (KB.out.trans k1)
    clear k1
    go_wp2_with fail
    refine (hcn _ K1).mono ?_
    rintro e w2 ⟨rfl, hw⟩
    have hw := hw.symm
    subst hw
    go_wp2
    go_ret
    exact ⟨ret_int (by rw [HC.out]; simp), K1.out⟩
  | true =>
  obtain ⟨rr, mm, er, eq_, r1, r5, m1, m4, p0, p1, eA, eB, eC⟩ := sysb_parts hsb
  rw [hsb, hfd, eq_, show ((mm + 1 : Nat) : Int).toNat = mm + 1 by omega] at HC
  have hcc := fun v0 v2 v3 v4 v5 W => colCount_any (mm + 1) (by omega) v0 v2 v3 v4 v5 W
  rw [← eq_] at hcc
  rw [hsb] at hcs
  rw [hfd] at hcn
  generalize (2 : Int) ^ (mm + 1) = Z at hcc HC
  clear er r1 r5 m1 m4 p0 p1 eA eB eC hsb hfd eq_
  cases hzz : decide ((m : Int) = Z) with
  | true =>
    have e : (m : Int) = Z := of_decide_eq_true hzz
    subst e
    clear hzz
    go_enter Try.func33, Try.ntmps33
    go_wp2_with fail
    refine hcs.mono ?_
    rintro e w1 ⟨rfl, k1⟩
    have K1 := hik (KB.out.trans k1)
    replace BX := hik (BX.out.keep k1)
    clear k1
    go_wp2_with fail
    refine (hcn _ K1).mono ?_
    rintro e w2 ⟨rfl, hw⟩
    have hw := hw.symm
    subst hw
    obtain ⟨x0, x1, x2, x3, x4, x5⟩ := BX.out.six
    go_wp2_with fail
    refine (hcc _ _ _ _ _ _).mono ?_
    rintro e w3 ⟨rfl, k3⟩
    have K3 := hik (K1.out.trans k3)
    clear k3 x0 x1 x2 x3 x4 x5
    go_wp2
    go_ret
    exact ⟨ret_int (by rw [HC.out]; simp), K3.out⟩
  | false =>
    have e : ¬ (m : Int) = Z := of_decide_eq_false hzz
    clear hzz
    go_enter Try.func33, Try.ntmps33
    go_wp2_with fail
    refine hcs.mono ?_
    rintro e' w1 ⟨rfl, k1⟩
    have K1 := hik (KB.out.trans k1)
    replace BX := hik (BX.out.keep k1)
    clear k1
    go_wp2_with fail
    refine (hcn _ K1).mono ?_
    rintro e' w2 ⟨rfl, hw⟩
    have hw := hw.symm
    subst hw
    obtain ⟨x0, x1, x2, x3, x4, x5⟩ := BX.out.six
    go_wp2_with fail
    refine (hcc _ _ _ _ _ _).mono ?_
    rintro e' w3 ⟨rfl, k3⟩
    have K3 := hik (K1.out.trans k3)
    clear k3 x0 x1 x2 x3 x4 x5
    go_wp2
    go_ret
    exact ⟨ret_int (by rw [HC.out]; simp [e]), K3.out⟩

set_option maxHeartbeats 8000000 in
theorem failedRow_any (s : Sy) (a : SyA) (c : Option Addr) (m cap : Nat) (z : Nat → Int) (w : World) (hv : Hid (SyV w s a)) (hs : s.small) (hz : Hid (RowV w c m (iv z))) (hm : m ≤ 1099511627776) :
    Calls Try.prog 14 #[.agg #[.int .i64 s.r, .int .i64 s.q, .int .i64 s.p, .slice a.cA s.nA a.pA, .slice a.cB s.nB a.pB, .slice a.cC s.nC a.pC], .slice c m cap] w fun e w' => e = .returned (.tuple #[.int .i64 (frv s m z).1, .int .i64 (frv s m z).2]) ∧ Chg nob w w' := by
  have KB := hik ((Chg.refl nob w).alloc (.cells #[.int .i64 s.r, .int .i64 s.q, .int .i64 s.p, .slice a.cA s.nA a.pA, .slice a.cB s.nB a.pB, .slice a.cC s.nC a.pC] 25))
  have BX := hik (cel6 (w := w.alloc (.cells #[.int .i64 s.r, .int .i64 s.q, .int .i64 s.p, .slice a.cA s.nA a.pA, .slice a.cB s.nB a.pB, .slice a.cC s.nC a.pC] 25)) (g := w.heap.size) (v0 := .int .i64 s.r) (v1 := .int .i64 s.q) (v2 := .int .i64 s.p) (v3 := .slice a.cA s.nA a.pA) (v4 := .slice a.cB s.nB a.pB) (v5 := .slice a.cC s.nC a.pC) (by go_simp) (by go_simp) (by go_simp) (by go_simp) (by go_simp) (by go_simp))
  have hco := frCode_any s a c m cap z (w.alloc (.cells #[.int .i64 s.r, .int .i64 s.q, .int .i64 s.p, .slice a.cA s.nA a.pA, .slice a.cB s.nB a.pB, .slice a.cC s.nC a.pC] 25)) (hik (hv.out.keep KB.out)) hs (hik (hz.out.keep KB.out)) hm
  by_cases h0 : cfc s m z = 0
  · have HV := hik (show frv s m z = frm (frr s z) by unfold frv; rw [if_pos h0])
    have hsb : sysb s = true := by
      unfold cfc at h0
      split at h0
      · cases h0
      · split at h0
        · cases h0
        · rename_i q; cases hh : sysb s with
          | true => rfl
          | false => exact absurd (.inl hh) q
    have hfd : fds m z = true := by
      unfold cfc at h0
      split at h0
      · cases h0
      · split at h0
        · cases h0
        · rename_i q; cases hh : fds m z with
          | true => rfl
          | false => exact absurd (.inr hh) q
    have hml : (m : Int) = 2 ^ s.q.toNat := by
      unfold cfc at h0
      rw [if_neg (by intro q; rw [if_pos q] at h0; cases h0), if_neg (by rw [hsb, hfd]; simp)] at h0
      by_cases q : (m : Int) = 2 ^ s.q.toNat
      · exact q
      · rw [if_pos q] at h0; cases h0
    obtain ⟨rr, mm, er, eq_, r1, r5, m1, m4, p0, p1, eA, eB, eC⟩ := sysb_parts hsb
    have hrt : s.r.toNat = rr := by omega
    have hqt : s.q.toNat = mm + 1 := by omega
    rw [hqt] at hml
    rw [← hml, ← pow_cast rr] at eA eB eC
    have hR32 := pow5 r5
    obtain ⟨nA2, wA⟩ := elm_parts eA
    obtain ⟨nB2, wB⟩ := elm_parts eB
    obtain ⟨nC2, wC⟩ := elm_parts eC
    have HR := hik (show frr s z = ffr (frb s z) (2 ^ rr) 0 by unfold frr; rw [hrt])
    have hrc := fun v1 v2 v3 v4 v5 W => rowCount_any rr (by omega) v1 v2 v3 v4 v5 W
    rw [← er, ← pow_cast rr] at hrc
    generalize hRg : 2 ^ rr = R at hrc HR wA wB wC hR32
    have hm32 : m ≤ 1048576 := by
      have := pow5 (show mm + 1 ≤ 5 by omega)
      rw [← pow_cast (mm + 1)] at hml
      omega
    have HFD := hik (fun i (hi : i < m) => fds_at hfd hi)
    have CA := fun W (k : Hid (Chg nob w W)) => rowSums_any a.cA s.nA a.pA s.XA R c m cap z W (hik (hv.out.A.keep k.out)) (hik (hz.out.keep k.out)) nA2 (by omega) hm32 (hik wA) HFD
    have CB := fun W (k : Hid (Chg nob w W)) => rowSums_any a.cB s.nB a.pB s.XB R c m cap z W (hik (hv.out.B.keep k.out)) (hik (hz.out.keep k.out)) nB2 (by omega) hm32 (hik wB) HFD
    have CC := fun W (k : Hid (Chg nob w W)) => rowSums_any a.cC s.nC a.pC s.XC R c m cap z W (hik (hv.out.C.keep k.out)) (hik (hz.out.keep k.out)) nC2 (by omega) hm32 (hik wC) HFD
    rw [h0] at hco
    clear h0 hsb hfd hml er eq_ r1 r5 m1 m4 p0 p1 eA eB eC hrt hqt hRg wA wB wC
    go_enter Try.func14, Try.ntmps14
    go_wp2_with fail
    refine hco.mono ?_
    rintro e w1 ⟨rfl, k1⟩
    have K1 := hik (KB.out.trans k1)
    replace BX := hik (BX.out.keep k1)
    clear k1 hco
    obtain ⟨x0, x1, x2, x3, x4, x5⟩ := BX.out.six
    go_wp2_with fail
    refine (hrc _ _ _ _ _ _).mono ?_
    rintro e w2 ⟨rfl, k2⟩
    have K2 := hik (K1.out.trans k2)
    replace BX := hik (BX.out.keep k2)
    clear k2 x0 x1 x2 x3 x4 x5 hrc
    obtain ⟨x0, x1, x2, x3, x4, x5⟩ := BX.out.six
    go_wp2_with fail
    go_region_held3 (fun w' => w'.cell? ⟨w.heap.size, 0, none⟩ = some (.int .i64 s.r) ∧ w'.cell? ⟨w.heap.size, 1, none⟩ = some (.int .i64 s.q) ∧ w'.cell? ⟨w.heap.size, 2, none⟩ = some (.int .i64 s.p) ∧ w'.cell? ⟨w.heap.size, 3, none⟩ = some (.slice a.cA s.nA a.pA) ∧ w'.cell? ⟨w.heap.size, 4, none⟩ = some (.slice a.cB s.nB a.pB) ∧ w'.cell? ⟨w.heap.size, 5, none⟩ = some (.slice a.cC s.nC a.pC)) (first | (exact ⟨x0, x1, x2, x3, x4, x5⟩) | (exact ⟨k6.look x0, k6.look x1, k6.look x2, k6.look x3, k6.look x4, k6.look x5⟩) | (exact ⟨k7.look (k6.look x0), k7.look (k6.look x1), k7.look (k6.look x2), k7.look (k6.look x3), k7.look (k6.look x4), k7.look (k6.look x5)⟩) | (exact ⟨k8.look (k7.look (k6.look x0)), k8.look (k7.look (k6.look x1)), k8.look (k7.look (k6.look x2)), k8.look (k7.look (k6.look x3)), k8.look (k7.look (k6.look x4)), k8.look (k7.look (k6.look x5))⟩)) (first | (go_at_call_of 28 (Value.slice a.cA s.nA a.pA); refine (CA _ (hik K2.out.drew1)).mono ?_; rintro e w3 ⟨rfl, r6, k6⟩) | (go_at_call_of 28 (Value.slice a.cB s.nB a.pB); refine (CB _ (hik ((K2.out.drew1).trans k6))).mono ?_; rintro e w4 ⟨rfl, r7, k7⟩) | (go_at_call_of 28 (Value.slice a.cC s.nC a.pC); refine (CC _ (hik (((K2.out.drew1).trans k6).trans k7))).mono ?_; rintro e w5 ⟨rfl, r8, k8⟩))
    have K5 := hik ((((K2.out.drew1).trans k6).trans k7).trans k8)
    have RA := hik (rowIs_keep (rowIs_keep r6 k7) k8)
    have RB := hik (rowIs_keep r7 k8)
    have RC := hik r8
    clear k6 k7 k8 r6 r7 r8 x0 x1 x2 x3 x4 x5 CA CB CC
    have RA : Hid (w5.rowIs w2.heap.size 3 R (iv (rsE s.XA z s.nA))) := RA
    generalize w2.heap.size = gA at RA ⊢
    generalize w3.heap.size = gB at RB ⊢
    generalize w4.heap.size = gC at RC ⊢
    go_wp2_with fail
    go_loopw [36] (fun s36 wr => ∃ k : Nat, k ≤ R ∧ s36 = .int .i64 k ∧ Hid (ffr (frb s z) R 0 = ffr (frb s z) (R - k) k) ∧ Hid (Chg nob w5 wr)) (fun s36 _ => R - (intOf s36).toNat)
    case atStart => exact ⟨0, Nat.zero_le _, rfl, hik rfl, hik (Chg.refl _ _)⟩
    case round =>
      obtain ⟨k, hk, rfl, HF, KW⟩ := hrel
      rename World => wr
      by_cases hlt : k < R
      · have hkn : ((k : Nat) : Int) < R := by omega
        have cA : wr.cell? ⟨gA, k, none⟩ = some (.int .i64 (rsE s.XA z s.nA k)) := (rowIs_keep RA.out KW.out).cell hlt
        have cB : wr.cell? ⟨gB, k, none⟩ = some (.int .i64 (rsE s.XB z s.nB k)) := (rowIs_keep RB.out KW.out).cell hlt
        have cC : wr.cell? ⟨gC, k, none⟩ = some (.int .i64 (rsE s.XC z s.nC k)) := (rowIs_keep RC.out KW.out).cell hlt
        obtain ⟨a0, a1⟩ := rsE_bd s.XA z s.nA k
        obtain ⟨b0, b1⟩ := rsE_bd s.XB z s.nB k
        have hfb : frb s z k = decide (rsE s.XA z s.nA k * rsE s.XB z s.nB k % 2130706433 ≠ rsE s.XC z s.nC k) := rfl
        generalize rsE s.XA z s.nA k = xa at cA a0 a1 hfb
        generalize rsE s.XB z s.nB k = xb at cB b0 b1 hfb
        generalize rsE s.XC z s.nC k = xc at cC hfb
        obtain ⟨m0, m1⟩ := mul_bd a0 a1 b0 b1
        have hml : wrap64 (xa * xb) = xa * xb := Go.IntWalk.wrap64_in _ (by omega)
        have hrm : (xa * xb).tmod 2130706433 = xa * xb % 2130706433 := Int.tmod_eq_emod_of_nonneg (by omega)
        have hT : (wrap64 (xa * xb)).tmod 2130706433 = xa * xb % 2130706433 := by rw [hml, hrm]
        by_cases hD : xa * xb % 2130706433 = xc
        · have HM := hik (ffr_miss hlt HF.out (by rw [hfb, hD]; simp))
          have hN : ((wrap64 (xa * xb)).tmod 2130706433 != xc) = false := by rw [hT, hD]; simp
          clear hfb a0 a1 b0 b1 m0 m1 hml hrm hT hD
          go_wp2_with fail
          go_quiet (fail)
          go_wp2
          go_roundw
          case rel => exact ⟨k + 1, by omega, by go_num, HM, hik (KW.out.drewN _)⟩
          case measure => simp [intOf]; omega
        · have HM := hik (ffr_hit hlt HF.out (by rw [hfb]; simp [hD]))
          have KK := hik ((K5.out.trans KW.out).drewN)
          have hN : ((wrap64 (xa * xb)).tmod 2130706433 != xc) = true := by rw [hT]; simp [hD]
          clear hfb a0 a1 b0 b1 m0 m1 hml hrm hT hD
          go_wp2_with fail
          go_quiet (fail)
          go_wp2
          go_ret2
          exact ⟨by rw [HV.out, HR.out, HM.out]; rfl, KK.out _⟩
      · obtain rfl : k = R := by omega
        have HM := hik (ffr_end HF.out)
        have KK := hik (K5.out.trans KW.out)
        go_wp2
        go_ret2
        exact ⟨by rw [HV.out, HR.out, HM.out]; rfl, KK.out⟩
  · have HV := hik (show frv s m z = (0, cfc s m z) by unfold frv; rw [if_neg h0])
    generalize cfc s m z = C at hco h0 HV
    go_enter Try.func14, Try.ntmps14
    go_wp2_with fail
    refine hco.mono ?_
    rintro e w1 ⟨rfl, k1⟩
    have K1 := hik (KB.out.trans k1)
    clear k1
    go_wp2
    go_ret2
    exact ⟨by rw [HV.out]; rfl, K1.out⟩

end Go.Proofs.Ytjaopbaapldceaa
