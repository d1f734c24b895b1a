/- What the program's Combine and DegreeOf answer: contracts. Conditions: lists that can be read, of at most 2 to the 40. -/
import Derived.Test.YtgiefpipflcbgaqCmbX
import Derived.Test.YtgiefpipflcbgaqSumD
namespace Go.Proofs.Ytgiefpipflcbgaq
open Go.ChangeShapes Go.WideShapes Go.ChangeAt Go.RowKit
set_option linter.unusedVariables false
set_option maxRecDepth 100000
set_option linter.unusedSimpArgs false

set_option maxHeartbeats 2000000 in
theorem degX_any (K : Int) (w : World) : Calls Try.prog 24 #[.int .i64 K] w fun e w' => e = .returned (.tuple #[.int .i64 (dgv K), .int .i64 (dgc K)]) ∧ Chg nob w w' := by
  cases hk : kdb K
  · have HV := hik (show dgv K = 0 by unfold dgv; rw [hk]; rfl)
    have HC := hik (show dgc K = 4 by unfold dgc; rw [hk]; rfl)
    rw [HV.out, HC.out]
    go_enter Try.func24, Try.ntmps24
    go_wp2_with fail
    refine (co_no K hk _).mono ?_
    rintro e W1 ⟨rfl, k1⟩
    have G1 := hik (k1.alloc (.cells #[.int .i64 0, .int .i64 0, .nilFunc] 51))
    clear k1
    go_wp2
    go_ret2
    exact ⟨rfl, G1.out⟩
  · obtain ⟨k, hKk, hk12⟩ := kdb_nat hk
    subst hKk
    obtain ⟨t, d, ff, hKD, ht, hd⟩ := KD.ex hk12
    have HV := hik (show dgv (k : Int) = d by unfold dgv; rw [if_pos hk, hd])
    have HC := hik (show dgc (k : Int) = 0 by unfold dgc; rw [if_pos hk])
    rw [HV.out, HC.out]
    have HKD := hik hKD
    clear ht hd hKD hk hk12 HV HC
    go_enter Try.func24, Try.ntmps24
    go_wp2_with fail
    refine (co_ok HKD.out _).mono ?_
    rintro e W1 ⟨rfl, k1⟩
    have G1 := hik (k1.alloc (.cells #[.int .i64 t, .int .i64 d, .func (.func ff) #[] #[]] 51))
    clear k1
    go_wp2
    go_ret2
    exact ⟨rfl, G1.out⟩

set_option maxHeartbeats 2000000 in
theorem cmbX_any (K : Int) (c : Option Addr) (n cap : Nat) (f g : Nat → Int) (w : World) (h : Hid (PairV w c n f g)) (hn : n ≤ 1099511627776) :
    Calls Try.prog 22 #[.int .i64 K, .slice c n cap] w fun e w' => e = .returned (.tuple #[.agg #[.int .i64 (cv8 K n f g).v.1, .int .i64 (cv8 K n f g).v.2], .int .i64 (cc8 K n f g)]) ∧ Chg nob w w' := by
  have E0 := hik (ElB.zero w)
  have G0 := hik ((Chg.refl nob w).alloc (.cells #[.int .i64 0, .int .i64 0] 25))
  by_cases hl : 4096 < n
  · have hl' : 4096 < (n : Int) := by omega
    have HC := hik (show cc8 K n f g = 2 by unfold cc8; rw [if_pos hl])
    have HV := hik (show cv8 K n f g = El.zr by unfold cv8; rw [HC.out]; rfl)
    rw [HC.out, HV.out]
    go_enter Try.func22, Try.ntmps22
    go_wp2
    exact bodyPost_ret (v := .tuple #[.agg #[.int .i64 0, .int .i64 0], .int .i64 2]) (by simp [results, Try.results22, go_sem]) rfl ⟨rfl, G0.out⟩
  have hl' : ¬ 4096 < (n : Int) := by omega
  cases ho : okP f g n
  · have HC := hik (show cc8 K n f g = 1 by unfold cc8; rw [if_neg hl, ho]; rfl)
    have HV := hik (show cv8 K n f g = El.zr by unfold cv8; rw [HC.out]; rfl)
    rw [HC.out, HV.out]
    go_enter Try.func22, Try.ntmps22
    go_wp2_with fail
    generalize hE : w.alloc (.cells #[.int .i64 0, .int .i64 0] 25) = W0 at E0 G0 ⊢
    clear hE
    refine (extsOK_any c n cap f g _ (hik (PairV.keep h.out G0.out)) hn).mono ?_
    rintro e W1 ⟨he, k1⟩
    rw [ho] at he
    subst he
    have E1 := hik (E0.out.keep k1)
    have G1 := hik (G0.out.trans k1)
    clear k1 E0 G0
    have c0 : W1.cell? ⟨w.heap.size, 0, none⟩ = some (.int .i64 0) := E1.out.c0
    have c1 : W1.cell? ⟨w.heap.size, 1, none⟩ = some (.int .i64 0) := E1.out.c1
    have f0 := E1.out.fz 0
    have f1 := E1.out.fz 1
    go_wp2
    have u0 : ((W1.setCell ⟨w.heap.size, 0, none⟩ (.int .i64 0)).setCell ⟨w.heap.size, 1, none⟩ (.int .i64 0)).cell? ⟨w.heap.size, 0, none⟩ = some (.int .i64 0) := (E1.out.set El.zr).c0
    have u1 : ((W1.setCell ⟨w.heap.size, 0, none⟩ (.int .i64 0)).setCell ⟨w.heap.size, 1, none⟩ (.int .i64 0)).cell? ⟨w.heap.size, 1, none⟩ = some (.int .i64 0) := (E1.out.set El.zr).c1
    exact bodyPost_ret (v := .tuple #[.agg #[.int .i64 0, .int .i64 0], .int .i64 1]) (by simp [results, Try.results22, go_sem, u0, u1]) rfl ⟨rfl, chg2_at G1.out w.heap.size (fun l => absurd l (by omega)) 0 1 (.int .i64 0) (.int .i64 0)⟩
  cases hk : kdb K
  · have HC := hik (show cc8 K n f g = 4 by unfold cc8; rw [if_neg hl, if_pos ho, if_neg (fun q => by rw [hk] at q; cases q.1)])
    have HV := hik (show cv8 K n f g = El.zr by unfold cv8; rw [HC.out]; rfl)
    rw [HC.out, HV.out]
    go_enter Try.func22, Try.ntmps22
    go_wp2_with fail
    generalize hE : w.alloc (.cells #[.int .i64 0, .int .i64 0] 25) = W0 at E0 G0 ⊢
    clear hE
    refine (extsOK_any c n cap f g _ (hik (PairV.keep h.out G0.out)) hn).mono ?_
    rintro e W1 ⟨he, k1⟩
    rw [ho] at he
    subst he
    have E1 := hik (E0.out.keep k1)
    have G1 := hik (G0.out.trans k1)
    clear k1 E0 G0
    go_wp2_with fail
    refine (co_no K hk _).mono ?_
    rintro e W2 ⟨rfl, k2⟩
    have E2 := hik ((E1.out.keep k2).keep ((Chg.refl nob W2).alloc (.cells #[.int .i64 0, .int .i64 0, .nilFunc] 51)))
    have G2 := hik ((G1.out.trans k2).alloc (.cells #[.int .i64 0, .int .i64 0, .nilFunc] 51))
    clear k2 E1 G1
    go_upto_region 6 with fail
    generalize hE : W2.alloc (.cells #[.int .i64 0, .int .i64 0, .nilFunc] 51) = W3 at E2 G2 ⊢
    clear hE
    have c0 : W3.cell? ⟨w.heap.size, 0, none⟩ = some (.int .i64 0) := E2.out.c0
    have c1 : W3.cell? ⟨w.heap.size, 1, none⟩ = some (.int .i64 0) := E2.out.c1
    have f0 := E2.out.fz 0
    have f1 := E2.out.fz 1
    go_wp2
    have u0 : ((W3.setCell ⟨w.heap.size, 0, none⟩ (.int .i64 0)).setCell ⟨w.heap.size, 1, none⟩ (.int .i64 0)).cell? ⟨w.heap.size, 0, none⟩ = some (.int .i64 0) := (E2.out.set El.zr).c0
    have u1 : ((W3.setCell ⟨w.heap.size, 0, none⟩ (.int .i64 0)).setCell ⟨w.heap.size, 1, none⟩ (.int .i64 0)).cell? ⟨w.heap.size, 1, none⟩ = some (.int .i64 0) := (E2.out.set El.zr).c1
    exact bodyPost_ret (v := .tuple #[.agg #[.int .i64 0, .int .i64 0], .int .i64 4]) (by simp [results, Try.results22, go_sem, u0, u1]) rfl ⟨rfl, chg2_at G2.out w.heap.size (fun l => absurd l (by omega)) 0 1 (.int .i64 0) (.int .i64 0)⟩
  obtain ⟨k, hKk, hk12⟩ := kdb_nat hk
  subst hKk
  obtain ⟨t, d, ff, hKD, ht, hd⟩ := KD.ex hk12
  have HKD := hik hKD
  by_cases hnt : (n : Int) = t
  · have HC := hik (show cc8 (k : Int) n f g = 0 by unfold cc8; rw [if_neg hl, if_pos ho, if_pos ⟨hk, by omega⟩])
    have HV := hik (show cv8 (k : Int) n f g = cmb k (elF f g) by unfold cv8; rw [if_pos HC.out, Int.toNat_natCast])
    rw [HC.out, HV.out]
    have HR := hik (PairE.of h.out ho)
    have hbz : ((n : Int) != t) = false := by rw [hnt]; simp
    have HNT := hik hnt
    have HNK := hik (show n = 2 * k by omega)
    have hcf := KD.run hKD
    obtain ⟨V, hV⟩ : ∃ V, V = cmb k (elF f g) := ⟨_, rfl⟩
    have QV := hik (fun (W : World) (hw : Hid (PairE W c n (elF f g))) => HKD.out.val c n cap HNK.out (elF f g) W hw)
    rw [← hV] at QV ⊢
    clear hnt ht hd hKD hk12 hk hV HC HV
    go_enter Try.func22, Try.ntmps22
    go_wp2_with fail
    generalize hE : w.alloc (.cells #[.int .i64 0, .int .i64 0] 25) = W0 at E0 G0 ⊢
    clear hE
    refine (extsOK_any c n cap f g _ (hik (PairV.keep h.out G0.out)) hn).mono ?_
    rintro e W1 ⟨he, k1⟩
    rw [ho] at he
    subst he
    have E1 := hik (E0.out.keep k1)
    have G1 := hik (G0.out.trans k1)
    clear k1 E0 G0
    go_wp2_with fail
    refine (co_ok HKD.out _).mono ?_
    rintro e W2 ⟨rfl, k2⟩
    obtain ⟨bc, hbc⟩ : ∃ bc, bc = W2.heap.size := ⟨_, rfl⟩
    have E2 := hik ((E1.out.keep k2).keep ((Chg.refl nob W2).alloc (.cells #[.int .i64 t, .int .i64 d, .func (.func ff) #[] #[]] 51)))
    have C2 := hik (show CmB (W2.alloc (.cells #[.int .i64 t, .int .i64 d, .func (.func ff) #[] #[]] 51)) bc t d (.func (.func ff) #[] #[]) from by rw [hbc]; exact CmB.new W2 t d _)
    have G2 := hik ((G1.out.trans k2).alloc (.cells #[.int .i64 t, .int .i64 d, .func (.func ff) #[] #[]] 51))
    clear k2 E1 G1
    go_upto_region 6 with fail
    rw [← hbc]
    generalize hE : W2.alloc (.cells #[.int .i64 t, .int .i64 d, .func (.func ff) #[] #[]] 51) = W3 at E2 G2 C2 ⊢
    clear hE hbc
    have m0 : W3.cell? ⟨bc, 0, none⟩ = some (.int .i64 t) := C2.out.c0
    have m2 : W3.cell? ⟨bc, 2, none⟩ = some (.func (.func ff) #[] #[]) := C2.out.c2
    go_wp2_with fail
    refine (QV.out _ (hik (PairE.keep HR.out G2.out))).mono ?_
    rintro e W4 ⟨rfl, k4⟩
    have E4 := hik (E2.out.keep k4)
    have G4 := hik (G2.out.trans k4)
    clear k4 E2 G2 m0 m2
    have c0 : W4.cell? ⟨w.heap.size, 0, none⟩ = some (.int .i64 0) := E4.out.c0
    have c1 : W4.cell? ⟨w.heap.size, 1, none⟩ = some (.int .i64 0) := E4.out.c1
    have f0 := E4.out.fz 0
    have f1 := E4.out.fz 1
    go_wp2
    have u0 := (E4.out.set V).c0
    have u1 := (E4.out.set V).c1
    exact bodyPost_ret (v := .tuple #[.agg #[.int .i64 V.v.1, .int .i64 V.v.2], .int .i64 0]) (by simp [results, Try.results22, go_sem, u0, u1]) rfl ⟨rfl, chg2_at G4.out w.heap.size (fun l => absurd l (by omega)) 0 1 _ _⟩
  · have HC := hik (show cc8 (k : Int) n f g = 4 by unfold cc8; rw [if_neg hl, if_pos ho, if_neg (fun q => hnt (by have := q.2; omega))])
    have HV := hik (show cv8 (k : Int) n f g = El.zr by unfold cv8; rw [HC.out]; rfl)
    rw [HC.out, HV.out]
    have hbz : ((n : Int) != t) = true := by simp only [bne_iff_ne]; omega
    have HNT := hik hnt
    clear hnt ht hd hKD hk12 hk
    go_enter Try.func22, Try.ntmps22
    go_wp2_with fail
    generalize hE : w.alloc (.cells #[.int .i64 0, .int .i64 0] 25) = W0 at E0 G0 ⊢
    clear hE
    refine (extsOK_any c n cap f g _ (hik (PairV.keep h.out G0.out)) hn).mono ?_
    rintro e W1 ⟨he, k1⟩
    rw [ho] at he
    subst he
    have E1 := hik (E0.out.keep k1)
    have G1 := hik (G0.out.trans k1)
    clear k1 E0 G0
    go_wp2_with fail
    refine (co_ok HKD.out _).mono ?_
    rintro e W2 ⟨rfl, k2⟩
    obtain ⟨bc, hbc⟩ : ∃ bc, bc = W2.heap.size := ⟨_, rfl⟩
    have E2 := hik ((E1.out.keep k2).keep ((Chg.refl nob W2).alloc (.cells #[.int .i64 t, .int .i64 d, .func (.func ff) #[] #[]] 51)))
    have C2 := hik (show CmB (W2.alloc (.cells #[.int .i64 t, .int .i64 d, .func (.func ff) #[] #[]] 51)) bc t d (.func (.func ff) #[] #[]) from by rw [hbc]; exact CmB.new W2 t d _)
    have G2 := hik ((G1.out.trans k2).alloc (.cells #[.int .i64 t, .int .i64 d, .func (.func ff) #[] #[]] 51))
    clear k2 E1 G1
    go_upto_region 6 with fail
    rw [← hbc]
    generalize hE : W2.alloc (.cells #[.int .i64 t, .int .i64 d, .func (.func ff) #[] #[]] 51) = W3 at E2 G2 C2 ⊢
    clear hE hbc
    have m0 : W3.cell? ⟨bc, 0, none⟩ = some (.int .i64 t) := C2.out.c0
    have c0 : W3.cell? ⟨w.heap.size, 0, none⟩ = some (.int .i64 0) := E2.out.c0
    have c1 : W3.cell? ⟨w.heap.size, 1, none⟩ = some (.int .i64 0) := E2.out.c1
    have f0 := E2.out.fz 0
    have f1 := E2.out.fz 1
    go_wp2
    have u0 : ((W3.setCell ⟨w.heap.size, 0, none⟩ (.int .i64 0)).setCell ⟨w.heap.size, 1, none⟩ (.int .i64 0)).cell? ⟨w.heap.size, 0, none⟩ = some (.int .i64 0) := (E2.out.set El.zr).c0
    have u1 : ((W3.setCell ⟨w.heap.size, 0, none⟩ (.int .i64 0)).setCell ⟨w.heap.size, 1, none⟩ (.int .i64 0)).cell? ⟨w.heap.size, 1, none⟩ = some (.int .i64 0) := (E2.out.set El.zr).c1
    exact bodyPost_ret (v := .tuple #[.agg #[.int .i64 0, .int .i64 0], .int .i64 4]) (by simp [results, Try.results22, go_sem, u0, u1]) rfl ⟨rfl, chg2_at G2.out w.heap.size (fun l => absurd l (by omega)) 0 1 (.int .i64 0) (.int .i64 0)⟩
end Go.Proofs.Ytgiefpipflcbgaq
