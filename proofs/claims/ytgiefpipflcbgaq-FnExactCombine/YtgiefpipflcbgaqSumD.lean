/- What the model's DegreeOf and Combine answer: contracts. Conditions: lists that can be read, of at most 2 to the 40. -/
import Derived.Test.YtgiefpipflcbgaqSumC
namespace Go.Proofs.Ytgiefpipflcbgaq
open Go.ChangeShapes Go.WideShapes Go.ChangeAt Go.RowKit
set_option linter.unusedVariables false
set_option maxRecDepth 100000
set_option linter.unusedSimpArgs false

/-- DegreeOf's answers. -/
def dgv (K : Int) : Int := if kdb K = true then K + 1 else 0
def dgc (K : Int) : Int := if kdb K = true then 0 else 4

set_option maxHeartbeats 1000000 in
theorem sDegX_any (K : Int) (w : World) : Calls Try.prog 23 #[.int .i64 K] w fun e w' => e = .returned (.tuple #[.int .i64 (dgv K), .int .i64 (dgc K)]) ∧ w' = w := by
  cases hk : kdb K
  · have H1 := hik (show dgv K = 0 by unfold dgv; rw [hk]; rfl)
    have H2 := hik (show dgc K = 4 by unfold dgc; rw [hk]; rfl)
    rw [H1.out, H2.out]
    go_enter Try.func23, Try.ntmps23
    go_wp2_with fail
    refine (sKind_any K _).mono ?_
    rintro e W1 ⟨he, hw⟩
    rw [hk] at he
    subst he
    have hw' := hw.symm
    clear hw
    subst hw'
    go_wp2
    exact bodyPost_ret (v := .tuple #[.int .i64 0, .int .i64 4]) (by simp [results, Try.results23, go_sem]) rfl ⟨rfl, rfl⟩
  · have H1 := hik (show dgv K = K + 1 by unfold dgv; rw [if_pos hk])
    have H2 := hik (show dgc K = 0 by unfold dgc; rw [if_pos hk])
    rw [H1.out, H2.out]
    obtain ⟨k, hKk, hk12⟩ := kdb_nat hk
    subst hKk
    have hwd : IntKind.i64.wrap ((k : Int) + 1) = (k : Int) + 1 := by rw [IntKind.wrap_i64]; rcases hk12 with rfl | rfl <;> omega
    have QD := hik (fun (w : World) => sDeg_any (k : Int) ((k : Int) + 1) hwd w)
    clear hwd H1 H2
    go_enter Try.func23, Try.ntmps23
    go_wp2_with fail
    refine (sKind_any (k : Int) _).mono ?_
    rintro e W1 ⟨he, hw⟩
    rw [hk] at he
    subst he
    have hw' := hw.symm
    clear hw
    subst hw'
    go_wp2_with fail
    refine (QD.out _).mono ?_
    rintro e W1 ⟨rfl, hw⟩
    have hw' := hw.symm
    clear hw
    subst hw'
    go_wp2
    exact bodyPost_ret (v := .tuple #[.int .i64 ((k : Int) + 1), .int .i64 0]) (by simp [results, Try.results23, go_sem]) rfl ⟨rfl, rfl⟩

/-- Combine's answers. -/
def cc8 (K : Int) (n : Nat) (f g : Nat → Int) : Int := if 4096 < n then 2 else if okP f g n = true then (if kdb K = true ∧ (n : Int) = 2 * K then 0 else 4) else 1
def cv8 (K : Int) (n : Nat) (f g : Nat → Int) : El := if cc8 K n f g = 0 then cmb K.toNat (elF f g) else El.zr

set_option maxHeartbeats 2000000 in
theorem sCmbX_any (K : Int) (c : Option Addr) (n cap : Nat) (f g : Nat → Int) (w : World) (h : Hid (PairV w c n f g)) (hn : n ≤ 1099511627776) :
    Calls Try.prog 20 #[.int .i64 K, .slice c n cap] w fun e w' => e = .returned (.tuple #[.agg #[.int .i64 (cv8 K n f g).v.1, .int .i64 (cv8 K n f g).v.2], .int .i64 (cc8 K n f g)]) ∧ Chg nob w w' := by
  have EZ := hik (ElB.zero w)
  have G0 := hik ((Chg.refl nob w).alloc (.cells #[.int .i64 0, .int .i64 0] 25))
  by_cases hl : 4096 < n
  · have hl' : 4096 < (n : Int) := by omega
    have HC := hik (show cc8 K n f g = 2 by unfold cc8; rw [if_pos hl])
    have HV := hik (show cv8 K n f g = El.zr by unfold cv8; rw [HC.out]; rfl)
    rw [HC.out, HV.out]
    go_enter Try.func20, Try.ntmps20
    go_wp2
    exact bodyPost_ret (v := .tuple #[.agg #[.int .i64 0, .int .i64 0], .int .i64 2]) (by simp [results, Try.results20, go_sem]) rfl ⟨rfl, G0.out⟩
  have hl' : ¬ 4096 < (n : Int) := by omega
  cases ho : okP f g n
  · have HC := hik (show cc8 K n f g = 1 by unfold cc8; rw [if_neg hl, ho]; rfl)
    have HV := hik (show cv8 K n f g = El.zr by unfold cv8; rw [HC.out]; rfl)
    rw [HC.out, HV.out]
    go_enter Try.func20, Try.ntmps20
    go_wp2_with fail
    generalize hE : w.alloc (.cells #[.int .i64 0, .int .i64 0] 25) = W0 at EZ G0 ⊢
    clear hE
    refine (l02List_any c n cap f g _ (hik (PairV.keep h.out G0.out)) hn).mono ?_
    rintro e W1 ⟨he, k1⟩
    rw [ho] at he
    subst he
    have E1 := hik (EZ.out.keep k1)
    have G1 := hik (G0.out.trans k1)
    clear k1 EZ G0
    have c0 : W1.cell? ⟨w.heap.size, 0, none⟩ = some (.int .i64 0) := E1.out.c0
    have c1 : W1.cell? ⟨w.heap.size, 1, none⟩ = some (.int .i64 0) := E1.out.c1
    have f0 := E1.out.fz 0
    have f1 := E1.out.fz 1
    go_wp2
    have u0 : ((W1.setCell ⟨w.heap.size, 0, none⟩ (.int .i64 0)).setCell ⟨w.heap.size, 1, none⟩ (.int .i64 0)).cell? ⟨w.heap.size, 0, none⟩ = some (.int .i64 0) := (E1.out.set El.zr).c0
    have u1 : ((W1.setCell ⟨w.heap.size, 0, none⟩ (.int .i64 0)).setCell ⟨w.heap.size, 1, none⟩ (.int .i64 0)).cell? ⟨w.heap.size, 1, none⟩ = some (.int .i64 0) := (E1.out.set El.zr).c1
    exact bodyPost_ret (v := .tuple #[.agg #[.int .i64 0, .int .i64 0], .int .i64 1]) (by simp [results, Try.results20, go_sem, u0, u1]) rfl ⟨rfl, chg2_at G1.out w.heap.size (fun l => absurd l (by omega)) 0 1 (.int .i64 0) (.int .i64 0)⟩
  cases hk : kdb K
  · have HC := hik (show cc8 K n f g = 4 by unfold cc8; rw [if_neg hl, if_pos ho, if_neg (fun q => by rw [hk] at q; cases q.1)])
    have HV := hik (show cv8 K n f g = El.zr by unfold cv8; rw [HC.out]; rfl)
    rw [HC.out, HV.out]
    go_enter Try.func20, Try.ntmps20
    go_wp2_with fail
    generalize hE : w.alloc (.cells #[.int .i64 0, .int .i64 0] 25) = W0 at EZ G0 ⊢
    clear hE
    refine (l02List_any c n cap f g _ (hik (PairV.keep h.out G0.out)) hn).mono ?_
    rintro e W1 ⟨he, k1⟩
    rw [ho] at he
    subst he
    have E1 := hik (EZ.out.keep k1)
    have G1 := hik (G0.out.trans k1)
    clear k1 EZ G0
    go_wp2_with fail
    refine (sKind_any K _).mono ?_
    rintro e W2 ⟨he, hw⟩
    rw [hk] at he
    subst he
    have hw' := hw.symm
    clear hw
    subst hw'
    have c0 : W1.cell? ⟨w.heap.size, 0, none⟩ = some (.int .i64 0) := E1.out.c0
    have c1 : W1.cell? ⟨w.heap.size, 1, none⟩ = some (.int .i64 0) := E1.out.c1
    have f0 := E1.out.fz 0
    have f1 := E1.out.fz 1
    go_wp2
    have u0 : ((W1.setCell ⟨w.heap.size, 0, none⟩ (.int .i64 0)).setCell ⟨w.heap.size, 1, none⟩ (.int .i64 0)).cell? ⟨w.heap.size, 0, none⟩ = some (.int .i64 0) := (E1.out.set El.zr).c0
    have u1 : ((W1.setCell ⟨w.heap.size, 0, none⟩ (.int .i64 0)).setCell ⟨w.heap.size, 1, none⟩ (.int .i64 0)).cell? ⟨w.heap.size, 1, none⟩ = some (.int .i64 0) := (E1.out.set El.zr).c1
    exact bodyPost_ret (v := .tuple #[.agg #[.int .i64 0, .int .i64 0], .int .i64 4]) (by simp [results, Try.results20, go_sem, u0, u1]) rfl ⟨rfl, chg2_at G1.out w.heap.size (fun l => absurd l (by omega)) 0 1 (.int .i64 0) (.int .i64 0)⟩
  obtain ⟨k, hKk, hk12⟩ := kdb_nat hk
  subst hKk
  have hw2 : IntKind.i64.wrap (2 * (k : Int)) = ((2 * k : Nat) : Int) := by rw [IntKind.wrap_i64]; rcases hk12 with rfl | rfl <;> omega
  obtain ⟨z, hz⟩ : ∃ z, z = 2 * k := ⟨_, rfl⟩
  rw [← hz] at hw2
  have QT := hik (fun (w : World) => sTbl_any (k : Int) (z : Int) hw2 w)
  clear hw2
  by_cases hnz : n = z
  · have HC := hik (show cc8 (k : Int) n f g = 0 by unfold cc8; rw [if_neg hl, if_pos ho, if_pos ⟨hk, by omega⟩])
    have HV := hik (show cv8 (k : Int) n f g = cmb k (elF f g) by unfold cv8; rw [if_pos HC.out, Int.toNat_natCast])
    rw [HC.out, HV.out]
    have HR := hik (PairE.of h.out ho)
    have hbz : ((n : Int) != (z : Int)) = false := by rw [hnz]; simp
    have hnk : n = 2 * k := by omega
    obtain ⟨V, hV⟩ : ∃ V, V = cmb k (elF f g) := ⟨_, rfl⟩
    have QS := hik (fun (c : Option Addr) (cap : Nat) (w : World) (h : Hid (PairE w c n (elF f g))) => sCmb_any hk12 c n cap hnk (elF f g) w h)
    rw [← hV] at QS ⊢
    clear hV hnz hz hnk HC HV hk12
    go_enter Try.func20, Try.ntmps20
    go_wp2_with fail
    generalize hE : w.alloc (.cells #[.int .i64 0, .int .i64 0] 25) = W0 at EZ G0 ⊢
    clear hE
    refine (l02List_any c n cap f g _ (hik (PairV.keep h.out G0.out)) hn).mono ?_
    rintro e W1 ⟨he, k1⟩
    rw [ho] at he
    subst he
    have E1 := hik (EZ.out.keep k1)
    have G1 := hik (G0.out.trans k1)
    clear k1 EZ G0
    go_wp2_with fail
    refine (sKind_any (k : Int) _).mono ?_
    rintro e W2 ⟨he, hw⟩
    rw [hk] at he
    subst he
    have hw' := hw.symm
    clear hw
    subst hw'
    go_wp2_with fail
    refine (QT.out _).mono ?_
    rintro e W2 ⟨rfl, hw⟩
    have hw' := hw.symm
    clear hw
    subst hw'
    go_wp2_with fail
    refine (QS.out c cap _ (hik (PairE.keep HR.out G1.out))).mono ?_
    rintro e W2 ⟨rfl, k2⟩
    have E2 := hik (E1.out.keep k2)
    have G2 := hik (G1.out.trans k2)
    clear k2 E1 G1
    have c0 : W2.cell? ⟨w.heap.size, 0, none⟩ = some (.int .i64 0) := E2.out.c0
    have c1 : W2.cell? ⟨w.heap.size, 1, none⟩ = some (.int .i64 0) := E2.out.c1
    have f0 := E2.out.fz 0
    have f1 := E2.out.fz 1
    go_wp2
    have u0 := (E2.out.set V).c0
    have u1 := (E2.out.set V).c1
    exact bodyPost_ret (v := .tuple #[.agg #[.int .i64 V.v.1, .int .i64 V.v.2], .int .i64 0]) (by simp [results, Try.results20, go_sem, u0, u1]) rfl ⟨rfl, chg2_at G2.out w.heap.size (fun l => absurd l (by omega)) 0 1 _ _⟩
  · have HC := hik (show cc8 (k : Int) n f g = 4 by unfold cc8; rw [if_neg hl, if_pos ho, if_neg (fun q => by have := q.2; omega)])
    have HV := hik (show cv8 (k : Int) n f g = El.zr by unfold cv8; rw [HC.out]; rfl)
    rw [HC.out, HV.out]
    have hbz : ((n : Int) != (z : Int)) = true := bne_iff_ne.2 (by omega)
    clear hnz hz HC HV hk12
    go_enter Try.func20, Try.ntmps20
    go_wp2_with fail
    generalize hE : w.alloc (.cells #[.int .i64 0, .int .i64 0] 25) = W0 at EZ G0 ⊢
    clear hE
    refine (l02List_any c n cap f g _ (hik (PairV.keep h.out G0.out)) hn).mono ?_
    rintro e W1 ⟨he, k1⟩
    rw [ho] at he
    subst he
    have E1 := hik (EZ.out.keep k1)
    have G1 := hik (G0.out.trans k1)
    clear k1 EZ G0
    go_wp2_with fail
    refine (sKind_any (k : Int) _).mono ?_
    rintro e W2 ⟨he, hw⟩
    rw [hk] at he
    subst he
    have hw' := hw.symm
    clear hw
    subst hw'
    go_wp2_with fail
    refine (QT.out _).mono ?_
    rintro e W2 ⟨rfl, hw⟩
    have hw' := hw.symm
    clear hw
    subst hw'
    have c0 : W1.cell? ⟨w.heap.size, 0, none⟩ = some (.int .i64 0) := E1.out.c0
    have c1 : W1.cell? ⟨w.heap.size, 1, none⟩ = some (.int .i64 0) := E1.out.c1
    have f0 := E1.out.fz 0
    have f1 := E1.out.fz 1
    go_wp2
    have u0 : ((W1.setCell ⟨w.heap.size, 0, none⟩ (.int .i64 0)).setCell ⟨w.heap.size, 1, none⟩ (.int .i64 0)).cell? ⟨w.heap.size, 0, none⟩ = some (.int .i64 0) := (E1.out.set El.zr).c0
    have u1 : ((W1.setCell ⟨w.heap.size, 0, none⟩ (.int .i64 0)).setCell ⟨w.heap.size, 1, none⟩ (.int .i64 0)).cell? ⟨w.heap.size, 1, none⟩ = some (.int .i64 0) := (E1.out.set El.zr).c1
    exact bodyPost_ret (v := .tuple #[.agg #[.int .i64 0, .int .i64 0], .int .i64 4]) (by simp [results, Try.results20, go_sem, u0, u1]) rfl ⟨rfl, chg2_at G1.out w.heap.size (fun l => absurd l (by omega)) 0 1 (.int .i64 0) (.int .i64 0)⟩
end Go.Proofs.Ytgiefpipflcbgaq
