/- Several texts in one: What the program's exported calls on tables answer: contracts. Conditions: rows that can be read, lengths of at most 2 to the 40. · For the laws on tables: rows of a call's own under another one's marks; lengths. No condition but those that each theorem states. -/
import Derived.Test.YtpcakjajnfbgdaaBzbf
import Derived.Test.YtpcakjajnfbgdaaBzbi
import Derived.Test.YtpcakjajnfbgdaaBzbh
import Derived.Test.YtpcakjajnfbgdaaBzbl
namespace Go.Proofs.Ytpcakjajnfbgdaa
open Go.ChangeShapes Go.WideShapes Go.ChangeAt Go.RowKit
set_option linter.unusedVariables false
set_option maxRecDepth 100000
set_option linter.unusedSimpArgs false

set_option maxHeartbeats 2000000 in
theorem tableAtX_any (c d : Option Addr) (n m cap cap' : Nat) (f g f' g' : Nat → Int) (w : World) (h : Hid (PairV w c n f g)) (h' : Hid (PairV w d m f' g')) (hn : n ≤ 1099511627776) (hm : m ≤ 1099511627776) :
    Calls Try.prog 11 #[.slice c n cap, .slice d m cap'] w fun e w' => e = .returned (.tuple #[.agg #[.int .i64 (tav f g n f' g' m).v.1, .int .i64 (tav f g n f' g' m).v.2], .int .i64 (tac f g n f' g' m)]) ∧ Chg nob w w' := by
  by_cases hl1 : 4096 < n
  · have hl' : 4096 < (n : Int) := by omega
    have HC := hik (show tac f g n f' g' m = 2 by unfold tac; rw [if_pos (Or.inl hl1)])
    have HV := hik (show tav f g n f' g' m = El.zr by unfold tav; rw [HC.out]; rfl)
    rw [HC.out, HV.out]
    go_enter Try.func11, Try.ntmps11
    go_wp2
    exact bodyPost_ret (v := .tuple #[.agg #[.int .i64 0, .int .i64 0], .int .i64 2]) (by simp [results, Try.results11, go_sem]) rfl ⟨rfl, (Chg.refl nob w).alloc _⟩
  by_cases hl2 : 4096 < m
  · have hl' : ¬ 4096 < (n : Int) := by omega
    have hl'' : 4096 < (m : Int) := by omega
    have HC := hik (show tac f g n f' g' m = 2 by unfold tac; rw [if_pos (Or.inr hl2)])
    have HV := hik (show tav f g n f' g' m = El.zr by unfold tav; rw [HC.out]; rfl)
    rw [HC.out, HV.out]
    go_enter Try.func11, Try.ntmps11
    go_wp2
    exact bodyPost_ret (v := .tuple #[.agg #[.int .i64 0, .int .i64 0], .int .i64 2]) (by simp [results, Try.results11, go_sem]) rfl ⟨rfl, (Chg.refl nob w).alloc _⟩
  have hl' : ¬ 4096 < (n : Int) := by omega
  have hl'' : ¬ 4096 < (m : Int) := by omega
  have hor : ¬ (4096 < n ∨ 4096 < m) := by omega
  have HOR := hik hor
  clear hor
  cases hk1 : tok f g n
  · have HC := hik (show tac f g n f' g' m = 1 by unfold tac; rw [if_neg HOR.out, hk1]; rfl)
    have HV := hik (show tav f g n f' g' m = El.zr by unfold tav; rw [HC.out]; rfl)
    rw [HC.out, HV.out]
    go_enter Try.func11, Try.ntmps11
    go_wp2_with (go_at_call 38; refine (tableOK_any c n cap f g _ (hik (h.out.keep ((Chg.refl nob w).alloc _))) hn).mono ?_; rintro e W1 ⟨he, k1⟩; rw [hk1] at he; subst he; have R1 := hik ((ElB.zero w).keep k1); have K1 := hik (((Chg.refl nob w).alloc _).trans k1); clear k1; have c0 : W1.cell? ⟨w.heap.size, 0, none⟩ = some (.int .i64 0) := R1.out.c0; have c1 : W1.cell? ⟨w.heap.size, 1, none⟩ = some (.int .i64 0) := R1.out.c1; have f0 := R1.out.fz 0; have f1 := R1.out.fz 1)
    have u0 : ((W1.setCell ⟨w.heap.size, 0, none⟩ (.int .i64 0)).setCell ⟨w.heap.size, 1, none⟩ (.int .i64 0)).cell? ⟨w.heap.size, 0, none⟩ = some (.int .i64 0) := (R1.out.set El.zr).c0
    have u1 : ((W1.setCell ⟨w.heap.size, 0, none⟩ (.int .i64 0)).setCell ⟨w.heap.size, 1, none⟩ (.int .i64 0)).cell? ⟨w.heap.size, 1, none⟩ = some (.int .i64 0) := (R1.out.set El.zr).c1
    exact bodyPost_ret (v := .tuple #[.agg #[.int .i64 0, .int .i64 0], .int .i64 1]) (by simp [results, Try.results11, go_sem, u0, u1]) rfl ⟨rfl, chg2_at K1.out w.heap.size (fun l => absurd l (by omega)) 0 1 (.int .i64 0) (.int .i64 0)⟩
  cases hk2 : pok f' g' m
  · have HC := hik (show tac f g n f' g' m = 1 by unfold tac; rw [if_neg HOR.out, hk1, hk2]; rfl)
    have HV := hik (show tav f g n f' g' m = El.zr by unfold tav; rw [HC.out]; rfl)
    rw [HC.out, HV.out]
    go_enter Try.func11, Try.ntmps11
    go_wp2_with (first | (go_at_call 38; refine (tableOK_any c n cap f g _ (hik (h.out.keep ((Chg.refl nob w).alloc _))) hn).mono ?_; rintro e W1 ⟨he, k1⟩; rw [hk1] at he; subst he; have R1 := hik ((ElB.zero w).keep k1); have K1 := hik (((Chg.refl nob w).alloc _).trans k1); clear k1; have c0 : W1.cell? ⟨w.heap.size, 0, none⟩ = some (.int .i64 0) := R1.out.c0; have c1 : W1.cell? ⟨w.heap.size, 1, none⟩ = some (.int .i64 0) := R1.out.c1; have f0 := R1.out.fz 0; have f1 := R1.out.fz 1) | (go_at_call 34; refine (pointOK_any d m cap' f' g' _ (hik (h'.out.keep K1.out)) hm).mono ?_; rintro e W2 ⟨he, k2⟩; rw [hk2] at he; subst he; have R2 := hik (R1.out.keep k2); have K2 := hik (K1.out.trans k2); clear k2 c0 c1 f0 f1; have c0 : W2.cell? ⟨w.heap.size, 0, none⟩ = some (.int .i64 0) := R2.out.c0; have c1 : W2.cell? ⟨w.heap.size, 1, none⟩ = some (.int .i64 0) := R2.out.c1; have f0 := R2.out.fz 0; have f1 := R2.out.fz 1))
    have u0 : ((W2.setCell ⟨w.heap.size, 0, none⟩ (.int .i64 0)).setCell ⟨w.heap.size, 1, none⟩ (.int .i64 0)).cell? ⟨w.heap.size, 0, none⟩ = some (.int .i64 0) := (R2.out.set El.zr).c0
    have u1 : ((W2.setCell ⟨w.heap.size, 0, none⟩ (.int .i64 0)).setCell ⟨w.heap.size, 1, none⟩ (.int .i64 0)).cell? ⟨w.heap.size, 1, none⟩ = some (.int .i64 0) := (R2.out.set El.zr).c1
    exact bodyPost_ret (v := .tuple #[.agg #[.int .i64 0, .int .i64 0], .int .i64 1]) (by simp [results, Try.results11, go_sem, u0, u1]) rfl ⟨rfl, chg2_at K2.out w.heap.size (fun l => absurd l (by omega)) 0 1 (.int .i64 0) (.int .i64 0)⟩
  by_cases hs : n = 2 ^ m
  rotate_left 1
  · have HC := hik (show tac f g n f' g' m = 8 by unfold tac; rw [if_neg HOR.out, hk1, hk2]; simp [hs])
    obtain ⟨h6, _⟩ := pok_le hk2
    have hsh := shl_pow h6
    have hne : ((n : Int) != 2 ^ m) = true := by
      have e : ((2 : Int) ^ m) = ((2 ^ m : Nat) : Int) := by simp
      rw [e]
      exact bne_iff_ne.2 (by omega)
    have HV := hik (show tav f g n f' g' m = El.zr by unfold tav; rw [HC.out]; rfl)
    rw [HC.out, HV.out]
    go_enter Try.func11, Try.ntmps11
    go_wp2_with (first | (go_at_call 38; refine (tableOK_any c n cap f g _ (hik (h.out.keep ((Chg.refl nob w).alloc _))) hn).mono ?_; rintro e W1 ⟨he, k1⟩; rw [hk1] at he; subst he; have R1 := hik ((ElB.zero w).keep k1); have K1 := hik (((Chg.refl nob w).alloc _).trans k1); clear k1; have c0 : W1.cell? ⟨w.heap.size, 0, none⟩ = some (.int .i64 0) := R1.out.c0; have c1 : W1.cell? ⟨w.heap.size, 1, none⟩ = some (.int .i64 0) := R1.out.c1; have f0 := R1.out.fz 0; have f1 := R1.out.fz 1) | (go_at_call 34; refine (pointOK_any d m cap' f' g' _ (hik (h'.out.keep K1.out)) hm).mono ?_; rintro e W2 ⟨he, k2⟩; rw [hk2] at he; subst he; have R2 := hik (R1.out.keep k2); have K2 := hik (K1.out.trans k2); clear k2 c0 c1 f0 f1; have c0 : W2.cell? ⟨w.heap.size, 0, none⟩ = some (.int .i64 0) := R2.out.c0; have c1 : W2.cell? ⟨w.heap.size, 1, none⟩ = some (.int .i64 0) := R2.out.c1; have f0 := R2.out.fz 0; have f1 := R2.out.fz 1))
    have u0 : ((W2.setCell ⟨w.heap.size, 0, none⟩ (.int .i64 0)).setCell ⟨w.heap.size, 1, none⟩ (.int .i64 0)).cell? ⟨w.heap.size, 0, none⟩ = some (.int .i64 0) := (R2.out.set El.zr).c0
    have u1 : ((W2.setCell ⟨w.heap.size, 0, none⟩ (.int .i64 0)).setCell ⟨w.heap.size, 1, none⟩ (.int .i64 0)).cell? ⟨w.heap.size, 1, none⟩ = some (.int .i64 0) := (R2.out.set El.zr).c1
    exact bodyPost_ret (v := .tuple #[.agg #[.int .i64 0, .int .i64 0], .int .i64 8]) (by simp [results, Try.results11, go_sem, u0, u1]) rfl ⟨rfl, chg2_at K2.out w.heap.size (fun l => absurd l (by omega)) 0 1 (.int .i64 0) (.int .i64 0)⟩
  have HC := hik (show tac f g n f' g' m = 0 by unfold tac; rw [if_neg HOR.out, hk1, hk2]; simp [hs])
  obtain ⟨h6, hok2⟩ := pok_le hk2
  obtain ⟨_, hok1⟩ := tok_p6 hk1
  have HV := hik (show tav f g n f' g' m = El.tat (fitE (elF f g) n zE) (elF f' g') m by
    unfold tav
    rw [HC.out, if_pos rfl]
    exact El.tat_congr (fun i hi => by unfold fitE; rw [if_pos (by omega)]) (fun _ _ => rfl))
  rw [HC.out, HV.out]
  have HS := hik hs
  have h64 : n ≤ 64 := by rw [hs]; exact pow_le6 h6
  have hsh := shl_pow h6
  have hne : ((n : Int) != 2 ^ m) = false := by rw [hs]; simp
  have HP := hik (PairE.of h.out hok1)
  have HP' := hik (PairE.of h'.out hok2)
  clear hs
  go_enter Try.func11, Try.ntmps11
  go_wp2_with (first
    | (first | (go_at_call 38; refine (tableOK_any c n cap f g _ (hik (h.out.keep ((Chg.refl nob w).alloc _))) hn).mono ?_; rintro e W1 ⟨he, k1⟩; rw [hk1] at he; subst he; have R1 := hik ((ElB.zero w).keep k1); have K1 := hik (((Chg.refl nob w).alloc _).trans k1); clear k1; have c0 : W1.cell? ⟨w.heap.size, 0, none⟩ = some (.int .i64 0) := R1.out.c0; have c1 : W1.cell? ⟨w.heap.size, 1, none⟩ = some (.int .i64 0) := R1.out.c1; have f0 := R1.out.fz 0; have f1 := R1.out.fz 1) | (go_at_call 34; refine (pointOK_any d m cap' f' g' _ (hik (h'.out.keep K1.out)) hm).mono ?_; rintro e W2 ⟨he, k2⟩; rw [hk2] at he; subst he; have R2 := hik (R1.out.keep k2); have K2 := hik (K1.out.trans k2); clear k2 c0 c1 f0 f1; have c0 : W2.cell? ⟨w.heap.size, 0, none⟩ = some (.int .i64 0) := R2.out.c0; have c1 : W2.cell? ⟨w.heap.size, 1, none⟩ = some (.int .i64 0) := R2.out.c1; have f0 := R2.out.fz 0; have f1 := R2.out.fz 1))
    | (go_at_call 39; refine (cubeFrom_any c n cap (elF f g) _ (hik (HP.out.keep K2.out)) h64).mono ?_; rintro e W3 ⟨rfl, k3⟩; have R3 := hik (R2.out.keep k3); have K3 := hik (K2.out.trans k3); clear k3 c0 c1 f0 f1)
    | (go_at_call 40; refine (at_N n m HS.out (fitE (elF f g) n zE) d cap' (elF f' g') _ (hik (HP'.out.keep K3.out)) h6).mono ?_; rintro e W4 ⟨rfl, k4⟩; have R4 := hik (R3.out.keep k4); have K4 := hik (K3.out.trans k4); clear k4; have c0 : W4.cell? ⟨w.heap.size, 0, none⟩ = some (.int .i64 0) := R4.out.c0; have c1 : W4.cell? ⟨w.heap.size, 1, none⟩ = some (.int .i64 0) := R4.out.c1; have f0 := R4.out.fz 0; have f1 := R4.out.fz 1))
  have u0 : ((W4.setCell ⟨w.heap.size, 0, none⟩ (.int .i64 (El.tat (fitE (elF f g) n zE) (elF f' g') m).v.1)).setCell ⟨w.heap.size, 1, none⟩ (.int .i64 (El.tat (fitE (elF f g) n zE) (elF f' g') m).v.2)).cell? ⟨w.heap.size, 0, none⟩ = some (.int .i64 (El.tat (fitE (elF f g) n zE) (elF f' g') m).v.1) := (R4.out.set (El.tat (fitE (elF f g) n zE) (elF f' g') m)).c0
  have u1 : ((W4.setCell ⟨w.heap.size, 0, none⟩ (.int .i64 (El.tat (fitE (elF f g) n zE) (elF f' g') m).v.1)).setCell ⟨w.heap.size, 1, none⟩ (.int .i64 (El.tat (fitE (elF f g) n zE) (elF f' g') m).v.2)).cell? ⟨w.heap.size, 1, none⟩ = some (.int .i64 (El.tat (fitE (elF f g) n zE) (elF f' g') m).v.2) := (R4.out.set (El.tat (fitE (elF f g) n zE) (elF f' g') m)).c1
  exact bodyPost_ret (v := .tuple #[.agg #[.int .i64 (El.tat (fitE (elF f g) n zE) (elF f' g') m).v.1, .int .i64 (El.tat (fitE (elF f g) n zE) (elF f' g') m).v.2], .int .i64 0]) (by simp [results, Try.results11, go_sem, u0, u1]) rfl ⟨rfl, chg2_at K4.out w.heap.size (fun l => absurd l (by omega)) 0 1 (.int .i64 (El.tat (fitE (elF f g) n zE) (elF f' g') m).v.1) (.int .i64 (El.tat (fitE (elF f g) n zE) (elF f' g') m).v.2)⟩


end Go.Proofs.Ytpcakjajnfbgdaa

namespace Go.Proofs.Ytpcakjajnfbgdaa
open Go.ChangeShapes Go.WideShapes Go.ChangeAt Go.RowKit
set_option linter.unusedVariables false
set_option linter.unusedSimpArgs false


end Go.Proofs.Ytpcakjajnfbgdaa
