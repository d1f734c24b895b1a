/- Several texts in one: The answers of the calls on tables, plain: codes, lengths, values. No condition but those that each theorem states. · What the program's public half at a point is: contracts. Conditions: a right system, as many right public numbers as it has, a point of as many elements as half its vector has variables. -/
import Derived.Test.YtpcakjajnfbgdaaBzbg
import Derived.Test.YtpcakjajnfbgdaaBzbb
import Derived.Test.YtpcakjajnfbgdaaBzbd
import Derived.Test.YtpcakjajnfbgdaaBzau
import Derived.Test.YtpcakjajnfbgdaaBzbf
import Derived.Test.YtpcakjajnfbgdaaBzbe
import Derived.Test.YtpcakjajnfbgdaaBzaq
import Derived.Test.YtpcakjajnfbgdaaBzaw
namespace Go.Proofs.Ytpcakjajnfbgdaa
open Go.ChangeShapes Go.WideShapes Go.ChangeAt Go.RowKit
set_option linter.unusedVariables false
set_option linter.unusedSimpArgs false

/-- A slice of elements of a call's own, or none, and a code. -/
def TbC (w : World) (code : Int) (m : Nat) (t : Nat → El) (e : Ending) (w' : World) : Prop :=
  ∃ (c : Option Addr) (cap : Nat), e = .returned (.tuple #[.slice c m cap, .int .i64 code]) ∧ m ≤ cap ∧ (cap : Int) ≤ 9223372036854775807 ∧ OwnE w' w.heap.size c m (cA t) (cB t) ∧ Chg nob w w'
theorem TbC.none {w w' : World} {code k : Int} {m : Nat} {t : Nat → El} (hc : code = k) (hm : m = 0) (kk : Chg nob w w') : TbC w code m t (.returned (.tuple #[.slice .none 0 0, .int .i64 k])) w' := by
  subst hc; subst hm
  exact ⟨.none, 0, rfl, Nat.le_refl _, by omega, OwnE.zero, kk⟩
theorem TbC.some {w w' : World} {code : Int} {m n cap : Nat} {c : Option Addr} {t : Nat → El} (hc : code = 0) (hm : m = n) (h1 : n ≤ cap) (h2 : (cap : Int) ≤ 9223372036854775807) (ho : OwnE w' w.heap.size c n (cA t) (cB t)) (kk : Chg nob w w') : TbC w code m t (.returned (.tuple #[.slice c n cap, .int .i64 0])) w' := by
  subst hc; subst hm
  exact ⟨c, cap, rfl, h1, h2, ho, kk⟩
/-- An empty slice that lies somewhere. -/
theorem TbC.empty {w w' : World} {code k : Int} {m : Nat} {c : Option Addr} {cap : Nat} {t : Nat → El} (hc : code = k) (hm : m = 0) (h2 : (cap : Int) ≤ 9223372036854775807) (kk : Chg nob w w') : TbC w code m t (.returned (.tuple #[.slice c 0 cap, .int .i64 k])) w' := by
  subst hc; subst hm
  exact ⟨c, cap, rfl, Nat.zero_le _, h2, OwnE.zero, kk⟩
/-- TableAt's. -/
def tac (f g : Nat → Int) (n : Nat) (f' g' : Nat → Int) (m : Nat) : Int := if 4096 < n ∨ 4096 < m then 2 else if tok f g n && pok f' g' m then (if n = 2 ^ m then 0 else 8) else 1
def tav (f g : Nat → Int) (n : Nat) (f' g' : Nat → Int) (m : Nat) : El := if tac f g n f' g' m = 0 then El.tat (elF f g) (elF f' g') m else El.zr

end Go.Proofs.Ytpcakjajnfbgdaa

namespace Go.Proofs.Ytpcakjajnfbgdaa
open Go.ChangeShapes Go.WideShapes Go.ChangeAt Go.RowKit
set_option linter.unusedVariables false
set_option maxRecDepth 100000
set_option linter.unusedSimpArgs false

/-- The public half's table. -/
def pbT (m P : Nat) (f : Nat → Int) (i : Nat) : El := El.ofi (vcv (2 ^ m) P f 0 (fun _ => 0) i)

set_option maxHeartbeats 4000000 in
theorem publicA_any (r : Int) (m P nA nB nC : Nat) (XA XB XC : Nat → En) (a : SyA) (c : Option Addr) (cap : Nat) (f : Nat → Int) (d : Option Addr) (cap' : Nat) (p : Nat → El) (w : World) (hv : Hid (SyV w (⟨r, (m : Int) + 1, (P : Int), nA, nB, nC, XA, XB, XC⟩ : Sy) a)) (hs : Sy.small (⟨r, (m : Int) + 1, (P : Int), nA, nB, nC, XA, XB, XC⟩ : Sy)) (hok : Hid (sysb (⟨r, (m : Int) + 1, (P : Int), nA, nB, nC, XA, XB, XC⟩ : Sy) = true)) (m1 : 1 ≤ m) (m4 : m ≤ 4) (hP1 : P ≤ 16)
    (hf : Hid (RowV w c P (iv f))) (hfb : Hid (∀ i, i < P → 0 ≤ f i ∧ f i < 2130706433)) (hp : Hid (PairE w d m p)) :
    Calls Try.prog 35 #[.agg #[.int .i64 r, .int .i64 ((m : Int) + 1), .int .i64 (P : Int), .slice a.cA nA a.pA, .slice a.cB nB a.pB, .slice a.cC nC a.pC], .slice c P cap, .slice d m cap'] w fun e w' => e = .returned (.agg #[.int .i64 (El.tat (pbT m P f) p m).v.1, .int .i64 (El.tat (pbT m P f) p m).v.2]) ∧ Chg nob w w' := by
  obtain ⟨M, hM⟩ : ∃ M, M = 2 ^ m := ⟨_, rfl⟩
  obtain ⟨N, hN⟩ : ∃ N, N = 2 ^ (m + 1) := ⟨_, rfl⟩
  have bM : (2 ≤ M ∧ M ≤ 16) ∧ M ≤ N ∧ N ≤ 32 := by
    obtain rfl | rfl | rfl | rfl : m = 1 ∨ m = 2 ∨ m = 3 ∨ m = 4 := by omega
    all_goals (subst hM hN; decide)
  have cM : (2 : Int) ^ m = (M : Int) := by rw [hM]; exact (pow_cast m).symm
  have tq : ((m : Int) + 1).toNat = m + 1 := by omega
  have hvc : vcc (⟨r, (m : Int) + 1, (P : Int), nA, nB, nC, XA, XB, XC⟩ : Sy) P f 0 (fun _ => 0) = 0 := vcc_ok9 hok.out (by omega) (by omega) (fds_of9 hfb.out) (fds_of9 (fun i hi => absurd hi (Nat.not_lt_zero i))) rfl (by dsimp only; rw [tq, Nat.add_sub_cancel, cM]; omega)
  obtain ⟨z, hz⟩ : ∃ z, z = vcv M P f 0 (fun _ => 0) := ⟨_, rfl⟩
  have ZB := hik (show ∀ i, 0 ≤ z i ∧ z i < 2130706433 from fun i => by rw [hz]; exact vcv_bd hfb.out (fun i hi => absurd hi (Nat.not_lt_zero i)) i)
  have HZ := hik hz
  have HM := hik hM
  have HN := hik hN
  have HT := hik (show El.tat (pbT m P f) p m = El.tat (fitE (fun i => El.ofi (z i)) M zE) p m from El.tat_congr (fun i hi => by unfold fitE pbT; rw [if_pos (by rw [hM]; exact hi), hz, hM]) (fun _ _ => rfl))
  have HH := hik (show ∀ (v0 v2 v3 v4 v5 : Value) (W : World), Calls Try.prog 36 #[.agg #[v0, .int .i64 ((m : Int) + 1), v2, v3, v4, v5]] W fun e w' => e = .returned (.int .i64 (M : Int)) ∧ Chg nob W w' from fun v0 v2 v3 v4 v5 W => by
    have h := half_any m (by omega) v0 v2 v3 v4 v5 W
    rw [show ((m + 1 : Nat) : Int) = (m : Int) + 1 by omega, cM] at h
    exact h)
  clear hM hN hz cM
  have KB := hik (((Chg.refl nob w).alloc (.cells #[.int .i64 r, .int .i64 ((m : Int) + 1), .int .i64 (P : Int), .slice a.cA nA a.pA, .slice a.cB nB a.pB, .slice a.cC nC a.pC] 25)).alloc (.cells #[.int .i64 0, .int .i64 0] 32))
  have BX := hik (Cel.keep (cel6 (w := w.alloc (.cells #[.int .i64 r, .int .i64 ((m : Int) + 1), .int .i64 (P : Int), .slice a.cA nA a.pA, .slice a.cB nB a.pB, .slice a.cC nC a.pC] 25)) (g := w.heap.size) (v0 := .int .i64 r) (v1 := .int .i64 ((m : Int) + 1)) (v2 := .int .i64 (P : Int)) (v3 := .slice a.cA nA a.pA) (v4 := .slice a.cB nB a.pB) (v5 := .slice a.cC nC a.pC) (by go_simp) (by go_simp) (by go_simp) (by go_simp) (by go_simp) (by go_simp)) ((Chg.refl nob _).alloc (.cells #[.int .i64 0, .int .i64 0] 32)))
  have RX := hik (ElB.zero (w.alloc (.cells #[.int .i64 r, .int .i64 ((m : Int) + 1), .int .i64 (P : Int), .slice a.cA nA a.pA, .slice a.cB nB a.pB, .slice a.cC nC a.pC] 25)))
  rw [show (w.alloc (.cells #[.int .i64 r, .int .i64 ((m : Int) + 1), .int .i64 (P : Int), .slice a.cA nA a.pA, .slice a.cB nB a.pB, .slice a.cC nC a.pC] 25)).heap.size = w.heap.size + 1 by simp] at RX
  rw [HT.out]
  generalize hTT : El.tat (fitE (fun i => El.ofi (z i)) M zE) p m = TT
  have HTT := hik hTT
  clear hTT HT
  go_enter Try.func35, Try.ntmps35
  go_wp2_with fail
  generalize hW : (w.alloc (.cells #[.int .i64 r, .int .i64 ((m : Int) + 1), .int .i64 (P : Int), .slice a.cA nA a.pA, .slice a.cB nB a.pB, .slice a.cC nC a.pC] 25)).alloc (.cells #[.int .i64 0, .int .i64 0] 32) = W0 at KB BX RX ⊢
  clear hW
  refine (vecXc_any (⟨r, (m : Int) + 1, (P : Int), nA, nB, nC, XA, XB, XC⟩ : Sy) a c P cap f none 0 0 (fun _ => 0) _ (hik (hv.out.keep KB.out)) hs (hik (hf.out.keep KB.out)) (hik (fun i hi => absurd hi (Nat.not_lt_zero i))) (by omega) (by omega)).mono ?_
  rintro e W1 h1
  have h1' : MmAnsC W0 (vcc (⟨r, (m : Int) + 1, (P : Int), nA, nB, nC, XA, XB, XC⟩ : Sy) P f 0 (fun _ => 0)) N z e W1 := by
    dsimp only at h1
    rw [tq, Nat.add_sub_cancel, ← HN.out, ← HM.out, ← HZ.out] at h1
    exact h1
  obtain ⟨gz, capz, rfl, hgz, hcz, hz, kk⟩ := h1'.ok9 hvc
  have Z1 := hik hz
  replace KB := hik (KB.out.trans kk)
  replace BX := hik (BX.out.keep kk)
  replace RX := hik (RX.out.keep kk)
  clear hz kk h1 h1' hgz hvc
  obtain ⟨x0, x1, x2, x3, x4, x5⟩ := BX.out.six
  go_wp2_with fail
  clear x0 x1 x2 x3 x4 x5
  refine (HH.out _ _ _ _ _ _).mono ?_
  rintro e W2 ⟨rfl, kk⟩
  replace KB := hik (KB.out.trans kk)
  replace Z1 := hik (rowIs_keep Z1.out kk)
  replace RX := hik (RX.out.keep kk)
  clear kk BX HH
  go_wp2_with fail
  refine (elementsOf_any _ M _ z _ (hik (RowV.of_row Z1.out (by omega))) (hik (fun i _ => ZB.out i)) (by omega)).mono ?_
  rintro e W3 ⟨b, hb, rfl, hr, kk⟩
  have R3 := hik hr
  replace KB := hik (KB.out.trans kk)
  replace RX := hik (RX.out.keep kk)
  clear kk hr hb Z1 ZB
  go_wp2_with fail
  refine (cubeFrom_any (some ⟨b, 0, none⟩) M M (fun i => El.ofi (z i)) _ (hik (RowE.pairs R3.out)) (by omega)).mono ?_
  rintro e W4 ⟨rfl, kk⟩
  replace KB := hik (KB.out.trans kk)
  replace RX := hik (RX.out.keep kk)
  clear kk R3
  go_wp2_with fail
  refine (at_N M m HM.out (fitE (fun i => El.ofi (z i)) M zE) d cap' p _ (hik (PairE.keep hp.out KB.out)) (by omega)).mono ?_
  rintro e W5 ⟨he, kk⟩
  rw [show El.tat (fitE (fun i => El.ofi (z i)) M zE) p m = TT from HTT.out] at he
  subst he
  replace KB := hik (KB.out.trans kk)
  replace RX := hik (RX.out.keep kk)
  clear kk
  have c0 := RX.out.c0
  have c1 := RX.out.c1
  have f0 := RX.out.fz 0
  have f1 := RX.out.fz 1
  have zl := RX.out.lt
  have RY := hik (RX.out.set TT)
  have u0 := RY.out.c0
  have u1 := RY.out.c1
  have KE := hik (chg2_at KB.out (w.heap.size + 1) (fun l => absurd l (by omega)) 0 1 (.int .i64 TT.v.1) (.int .i64 TT.v.2))
  go_wp2
  exact bodyPost_ret (v := .agg #[.int .i64 TT.v.1, .int .i64 TT.v.2]) (by simp [results, Try.results35, go_sem, u0, u1]) rfl ⟨rfl, KE.out⟩
theorem pok_pb (p : Nat → El) (m : Nat) (hm : m ≤ 6) : pok (cA p) (cB p) m = true := by
  unfold pok
  rw [okP_el, decide_eq_true hm]
  rfl

set_option maxHeartbeats 4000000 in
theorem publicOK_any (r : Int) (m P nA nB nC : Nat) (XA XB XC : Nat → En) (a : SyA) (c : Option Addr) (cap : Nat) (f : Nat → Int) (d : Option Addr) (cap' : Nat) (p : Nat → El) (w : World) (hv : Hid (SyV w (⟨r, (m : Int) + 1, (P : Int), nA, nB, nC, XA, XB, XC⟩ : Sy) a)) (hs : Sy.small (⟨r, (m : Int) + 1, (P : Int), nA, nB, nC, XA, XB, XC⟩ : Sy)) (hok : Hid (sysb (⟨r, (m : Int) + 1, (P : Int), nA, nB, nC, XA, XB, XC⟩ : Sy) = true)) (m1 : 1 ≤ m) (m4 : m ≤ 4) (hP1 : P ≤ 16)
    (hf : Hid (RowV w c P (iv f))) (hfb : Hid (∀ i, i < P → 0 ≤ f i ∧ f i < 2130706433)) (hp : Hid (PairE w d m p)) :
    Calls Try.prog 9 #[.agg #[.int .i64 r, .int .i64 ((m : Int) + 1), .int .i64 (P : Int), .slice a.cA nA a.pA, .slice a.cB nB a.pB, .slice a.cC nC a.pC], .slice c P cap, .slice d m cap'] w fun e w' => e = .returned (.tuple #[.agg #[.int .i64 (El.tat (pbT m P f) p m).v.1, .int .i64 (El.tat (pbT m P f) p m).v.2], .int .i64 0]) ∧ Chg nob w w' := by
  have KB := hik (((Chg.refl nob w).alloc (.cells #[.int .i64 r, .int .i64 ((m : Int) + 1), .int .i64 (P : Int), .slice a.cA nA a.pA, .slice a.cB nB a.pB, .slice a.cC nC a.pC] 25)).alloc (.cells #[.int .i64 0, .int .i64 0] 32))
  have BX := hik (Cel.keep (cel6 (w := w.alloc (.cells #[.int .i64 r, .int .i64 ((m : Int) + 1), .int .i64 (P : Int), .slice a.cA nA a.pA, .slice a.cB nB a.pB, .slice a.cC nC a.pC] 25)) (g := w.heap.size) (v0 := .int .i64 r) (v1 := .int .i64 ((m : Int) + 1)) (v2 := .int .i64 (P : Int)) (v3 := .slice a.cA nA a.pA) (v4 := .slice a.cB nB a.pB) (v5 := .slice a.cC nC a.pC) (by go_simp) (by go_simp) (by go_simp) (by go_simp) (by go_simp) (by go_simp)) ((Chg.refl nob _).alloc (.cells #[.int .i64 0, .int .i64 0] 32)))
  have RX := hik (ElB.zero (w.alloc (.cells #[.int .i64 r, .int .i64 ((m : Int) + 1), .int .i64 (P : Int), .slice a.cA nA a.pA, .slice a.cB nB a.pB, .slice a.cC nC a.pC] 25)))
  rw [show (w.alloc (.cells #[.int .i64 r, .int .i64 ((m : Int) + 1), .int .i64 (P : Int), .slice a.cA nA a.pA, .slice a.cB nB a.pB, .slice a.cC nC a.pC] 25)).heap.size = w.heap.size + 1 by simp] at RX
  generalize hTT : El.tat (pbT m P f) p m = TT
  have HTT := hik hTT
  clear hTT
  go_enter Try.func9, Try.ntmps9
  go_wp2_with fail
  generalize hW : (w.alloc (.cells #[.int .i64 r, .int .i64 ((m : Int) + 1), .int .i64 (P : Int), .slice a.cA nA a.pA, .slice a.cB nB a.pB, .slice a.cC nC a.pC] 25)).alloc (.cells #[.int .i64 0, .int .i64 0] 32) = W0 at KB BX RX ⊢
  clear hW
  refine (sysOK_any (⟨r, (m : Int) + 1, (P : Int), nA, nB, nC, XA, XB, XC⟩ : Sy) a _ (hik (hv.out.keep KB.out)) hs).mono ?_
  rintro e W1 ⟨he, kk⟩
  rw [hok.out] at he
  subst he
  replace KB := hik (KB.out.trans kk)
  replace BX := hik (BX.out.keep kk)
  replace RX := hik (RX.out.keep kk)
  clear kk
  go_wp2_with fail
  refine (numsOK_any c P cap f _ (hik (hf.out.keep KB.out)) (by omega)).mono ?_
  rintro e W2 ⟨he, hw⟩
  rw [fds_of9 hfb.out] at he
  subst he
  have hw := hw.symm
  subst hw
  go_wp2_with fail
  refine (pointOK_any d m cap' (cA p) (cB p) _ (hik (PairV.keep hp.out KB.out)) (by omega)).mono ?_
  rintro e W3 ⟨he, kk⟩
  rw [pok_pb p m (by omega)] at he
  subst he
  replace KB := hik (KB.out.trans kk)
  replace BX := hik (BX.out.keep kk)
  replace RX := hik (RX.out.keep kk)
  clear kk
  obtain ⟨x0, x1, x2, x3, x4, x5⟩ := BX.out.six
  go_wp2_with fail
  clear x0 x1 x2 x3 x4 x5
  refine (publicA_any r m P nA nB nC XA XB XC a c cap f d cap' p _ (hik (hv.out.keep KB.out)) hs hok m1 m4 hP1 (hik (hf.out.keep KB.out)) hfb (hik (PairE.keep hp.out KB.out))).mono ?_
  rintro e W4 ⟨he, kk⟩
  rw [HTT.out] at he
  subst he
  replace KB := hik (KB.out.trans kk)
  replace RX := hik (RX.out.keep kk)
  clear kk BX
  have c0 := RX.out.c0
  have c1 := RX.out.c1
  have f0 := RX.out.fz 0
  have f1 := RX.out.fz 1
  have zl := RX.out.lt
  have RY := hik (RX.out.set TT)
  have u0 := RY.out.c0
  have u1 := RY.out.c1
  have KE := hik (chg2_at KB.out (w.heap.size + 1) (fun l => absurd l (by omega)) 0 1 (.int .i64 TT.v.1) (.int .i64 TT.v.2))
  go_wp2
  exact bodyPost_ret (v := .tuple #[.agg #[.int .i64 TT.v.1, .int .i64 TT.v.2], .int .i64 0]) (by simp [results, Try.results9, go_sem, u0, u1]) rfl ⟨rfl, KE.out⟩

end Go.Proofs.Ytpcakjajnfbgdaa
