/- What the model's PolyAt answers: a contract. Conditions: lists that can be read, of at most 2 to the 40. -/
import Derived.Test.YtagjffjdoimhbacBdo
import Derived.Test.YtagjffjdoimhbacTabP
namespace Go.Proofs.Ytagjffjdoimhbac
open Go.ChangeShapes Go.WideShapes Go.ChangeAt Go.RowKit
set_option linter.unusedVariables false
set_option maxRecDepth 100000
set_option linter.unusedSimpArgs false

def pac (f g : Nat → Int) (n : Nat) (a b : Int) : Int := if 4096 < n then 2 else if okP f g n && eok a b then 0 else 1
def pav (f g : Nat → Int) (n : Nat) (a b : Int) : El := if pac f g n a b = 0 then El.plt (elF f g) (elP a b) 0 n else El.zr

set_option maxHeartbeats 2000000 in
theorem sPolyX_any (c : Option Addr) (n cap : Nat) (f g : Nat → Int) (a b : Int) (w : World) (h : Hid (PairV w c n f g)) (hn : n ≤ 1099511627776) :
    Calls Try.prog 28 #[.slice c n cap, .agg #[.int .i64 a, .int .i64 b]] w fun e w' => e = .returned (.tuple #[.agg #[.int .i64 (pav f g n a b).v.1, .int .i64 (pav f g n a b).v.2], .int .i64 (pac f g n a b)]) ∧ Chg nob w w' := by
  by_cases hl : 4096 < n
  · have hl' : 4096 < (n : Int) := by omega
    have HC := hik (show pac f g n a b = 2 by unfold pac; rw [if_pos hl])
    have HV := hik (show pav f g n a b = El.zr by unfold pav; rw [HC.out]; rfl)
    rw [HC.out, HV.out]
    go_enter Try.func28, Try.ntmps28
    go_wp2
    exact bodyPost_ret (v := .tuple #[.agg #[.int .i64 0, .int .i64 0], .int .i64 2]) (by simp [results, Try.results28, go_sem]) rfl ⟨rfl, ((Chg.refl nob w).alloc _).alloc _⟩
  have hl' : ¬ 4096 < (n : Int) := by omega
  cases hk1 : okP f g n
  · have HC := hik (show pac f g n a b = 1 by unfold pac; rw [if_neg hl, hk1]; rfl)
    have HV := hik (show pav f g n a b = El.zr by unfold pav; rw [HC.out]; rfl)
    rw [HC.out, HV.out]
    go_enter Try.func28, Try.ntmps28
    go_wp2_with (go_at_call 62; refine (l02List_any c n cap f g _ (hik (h.out.keep (((Chg.refl nob w).alloc _).alloc _))) hn).mono ?_; rintro e W1 ⟨he, k1⟩; rw [hk1] at he; subst he; have R1 := hik (ElB.keep (by simpa using ElB.zero (w.alloc (.cells #[.int .i64 a, .int .i64 b] 31)) : ElB ((w.alloc (.cells #[.int .i64 a, .int .i64 b] 31)).alloc (.cells #[.int .i64 0, .int .i64 0] 31)) (w.heap.size + 1) El.zr) k1); have E1 := hik (((Elem.new w a b 31).keep ((Chg.refl nob _).alloc (.cells #[.int .i64 0, .int .i64 0] 31))).keep k1); have K1 := hik ((((Chg.refl nob w).alloc _).alloc _).trans k1); clear k1; have c0 : W1.cell? ⟨w.heap.size + 1, 0, none⟩ = some (.int .i64 0) := R1.out.c0; have c1 : W1.cell? ⟨w.heap.size + 1, 1, none⟩ = some (.int .i64 0) := R1.out.c1; have f0 := R1.out.fz 0; have f1 := R1.out.fz 1; have a0 := E1.out.c0; have a1 := E1.out.c1)
    have u0 : ((W1.setCell ⟨w.heap.size + 1, 0, none⟩ (.int .i64 0)).setCell ⟨w.heap.size + 1, 1, none⟩ (.int .i64 0)).cell? ⟨w.heap.size + 1, 0, none⟩ = some (.int .i64 0) := (R1.out.set El.zr).c0
    have u1 : ((W1.setCell ⟨w.heap.size + 1, 0, none⟩ (.int .i64 0)).setCell ⟨w.heap.size + 1, 1, none⟩ (.int .i64 0)).cell? ⟨w.heap.size + 1, 1, none⟩ = some (.int .i64 0) := (R1.out.set El.zr).c1
    exact bodyPost_ret (v := .tuple #[.agg #[.int .i64 0, .int .i64 0], .int .i64 1]) (by simp [results, Try.results28, go_sem, u0, u1]) rfl ⟨rfl, chg2_at K1.out (w.heap.size + 1) (fun l => absurd l (by omega)) 0 1 (.int .i64 0) (.int .i64 0)⟩
  cases hk2 : eok a b
  · have HC := hik (show pac f g n a b = 1 by unfold pac; rw [if_neg hl, hk1, hk2]; rfl)
    have HV := hik (show pav f g n a b = El.zr by unfold pav; rw [HC.out]; rfl)
    rw [HC.out, HV.out]
    go_enter Try.func28, Try.ntmps28
    go_wp2_with (first | (go_at_call 62; refine (l02List_any c n cap f g _ (hik (h.out.keep (((Chg.refl nob w).alloc _).alloc _))) hn).mono ?_; rintro e W1 ⟨he, k1⟩; rw [hk1] at he; subst he; have R1 := hik (ElB.keep (by simpa using ElB.zero (w.alloc (.cells #[.int .i64 a, .int .i64 b] 31)) : ElB ((w.alloc (.cells #[.int .i64 a, .int .i64 b] 31)).alloc (.cells #[.int .i64 0, .int .i64 0] 31)) (w.heap.size + 1) El.zr) k1); have E1 := hik (((Elem.new w a b 31).keep ((Chg.refl nob _).alloc (.cells #[.int .i64 0, .int .i64 0] 31))).keep k1); have K1 := hik ((((Chg.refl nob w).alloc _).alloc _).trans k1); clear k1; have c0 : W1.cell? ⟨w.heap.size + 1, 0, none⟩ = some (.int .i64 0) := R1.out.c0; have c1 : W1.cell? ⟨w.heap.size + 1, 1, none⟩ = some (.int .i64 0) := R1.out.c1; have f0 := R1.out.fz 0; have f1 := R1.out.fz 1; have a0 := E1.out.c0; have a1 := E1.out.c1) | (go_at_call 63; refine (sExtOK_any a b _).mono ?_; rintro e W2 ⟨he, k2⟩; rw [hk2] at he; subst he; have R2 := hik (R1.out.keep k2); have E2 := hik (E1.out.keep k2); have K2 := hik (K1.out.trans k2); clear k2 c0 c1 f0 f1 a0 a1; have c0 : W2.cell? ⟨w.heap.size + 1, 0, none⟩ = some (.int .i64 0) := R2.out.c0; have c1 : W2.cell? ⟨w.heap.size + 1, 1, none⟩ = some (.int .i64 0) := R2.out.c1; have f0 := R2.out.fz 0; have f1 := R2.out.fz 1; have a0 := E2.out.c0; have a1 := E2.out.c1))
    have u0 : ((W2.setCell ⟨w.heap.size + 1, 0, none⟩ (.int .i64 0)).setCell ⟨w.heap.size + 1, 1, none⟩ (.int .i64 0)).cell? ⟨w.heap.size + 1, 0, none⟩ = some (.int .i64 0) := (R2.out.set El.zr).c0
    have u1 : ((W2.setCell ⟨w.heap.size + 1, 0, none⟩ (.int .i64 0)).setCell ⟨w.heap.size + 1, 1, none⟩ (.int .i64 0)).cell? ⟨w.heap.size + 1, 1, none⟩ = some (.int .i64 0) := (R2.out.set El.zr).c1
    exact bodyPost_ret (v := .tuple #[.agg #[.int .i64 0, .int .i64 0], .int .i64 1]) (by simp [results, Try.results28, go_sem, u0, u1]) rfl ⟨rfl, chg2_at K2.out (w.heap.size + 1) (fun l => absurd l (by omega)) 0 1 (.int .i64 0) (.int .i64 0)⟩
  have HC := hik (show pac f g n a b = 0 by unfold pac; rw [if_neg hl, hk1, hk2]; rfl)
  have h8 : n ≤ 4096 := by omega
  obtain ⟨r, hra, hrb, hre⟩ : ∃ r : El, a = r.v.1 ∧ b = r.v.2 ∧ elP a b = r := ⟨elP a b, by rw [elP_v hk2], by rw [elP_v hk2], rfl⟩
  have HV := hik (show pav f g n a b = El.plt (elF f g) r 0 n by unfold pav; rw [HC.out, if_pos rfl, hre])
  rw [HC.out, HV.out]
  have HP := hik (PairE.of h.out hk1)
  clear HC HV
  subst hra hrb
  clear hre
  go_enter Try.func28, Try.ntmps28
  go_wp2_with (first
    | (go_at_call 62; refine (l02List_any c n cap f g _ (hik (h.out.keep (((Chg.refl nob w).alloc _).alloc _))) hn).mono ?_; rintro e W1 ⟨he, k1⟩; rw [hk1] at he; subst he; have R1 := hik (ElB.keep (by simpa using ElB.zero (w.alloc (.cells #[.int .i64 r.v.1, .int .i64 r.v.2] 31)) : ElB ((w.alloc (.cells #[.int .i64 r.v.1, .int .i64 r.v.2] 31)).alloc (.cells #[.int .i64 0, .int .i64 0] 31)) (w.heap.size + 1) El.zr) k1); have E1 := hik (((Elem.new w r.v.1 r.v.2 31).keep ((Chg.refl nob _).alloc (.cells #[.int .i64 0, .int .i64 0] 31))).keep k1); have K1 := hik ((((Chg.refl nob w).alloc _).alloc _).trans k1); clear k1; have c0 : W1.cell? ⟨w.heap.size + 1, 0, none⟩ = some (.int .i64 0) := R1.out.c0; have c1 : W1.cell? ⟨w.heap.size + 1, 1, none⟩ = some (.int .i64 0) := R1.out.c1; have f0 := R1.out.fz 0; have f1 := R1.out.fz 1; have a0 := E1.out.c0; have a1 := E1.out.c1)
    | (go_at_call 63; refine (sExtOK_any r.v.1 r.v.2 _).mono ?_; rintro e W2 ⟨he, k2⟩; rw [hk2] at he; subst he; have R2 := hik (R1.out.keep k2); have E2 := hik (E1.out.keep k2); have K2 := hik (K1.out.trans k2); clear k2 c0 c1 f0 f1 a0 a1; have c0 : W2.cell? ⟨w.heap.size + 1, 0, none⟩ = some (.int .i64 0) := R2.out.c0; have c1 : W2.cell? ⟨w.heap.size + 1, 1, none⟩ = some (.int .i64 0) := R2.out.c1; have f0 := R2.out.fz 0; have f1 := R2.out.fz 1; have a0 := E2.out.c0; have a1 := E2.out.c1)
    | (go_at_call 64; refine (sAt_any c n cap (elF f g) r _ (hik (HP.out.keep K2.out)) h8).mono ?_; rintro e W3 ⟨rfl, k3⟩; have R3 := hik (R2.out.keep k3); have K3 := hik (K2.out.trans k3); clear k3 c0 c1 f0 f1 a0 a1; have c0 : W3.cell? ⟨w.heap.size + 1, 0, none⟩ = some (.int .i64 0) := R3.out.c0; have c1 : W3.cell? ⟨w.heap.size + 1, 1, none⟩ = some (.int .i64 0) := R3.out.c1; have f0 := R3.out.fz 0; have f1 := R3.out.fz 1))
  have u0 : ((W3.setCell ⟨w.heap.size + 1, 0, none⟩ (.int .i64 (El.plt (elF f g) r 0 n).v.1)).setCell ⟨w.heap.size + 1, 1, none⟩ (.int .i64 (El.plt (elF f g) r 0 n).v.2)).cell? ⟨w.heap.size + 1, 0, none⟩ = some (.int .i64 (El.plt (elF f g) r 0 n).v.1) := (R3.out.set (El.plt (elF f g) r 0 n)).c0
  have u1 : ((W3.setCell ⟨w.heap.size + 1, 0, none⟩ (.int .i64 (El.plt (elF f g) r 0 n).v.1)).setCell ⟨w.heap.size + 1, 1, none⟩ (.int .i64 (El.plt (elF f g) r 0 n).v.2)).cell? ⟨w.heap.size + 1, 1, none⟩ = some (.int .i64 (El.plt (elF f g) r 0 n).v.2) := (R3.out.set (El.plt (elF f g) r 0 n)).c1
  exact bodyPost_ret (v := .tuple #[.agg #[.int .i64 (El.plt (elF f g) r 0 n).v.1, .int .i64 (El.plt (elF f g) r 0 n).v.2], .int .i64 0]) (by simp [results, Try.results28, go_sem, u0, u1]) rfl ⟨rfl, chg2_at K3.out (w.heap.size + 1) (fun l => absurd l (by omega)) 0 1 (.int .i64 (El.plt (elF f g) r 0 n).v.1) (.int .i64 (El.plt (elF f g) r 0 n).v.2)⟩

end Go.Proofs.Ytagjffjdoimhbac
