/- Several texts in one: What the program's value of a table by value at a point answers: a contract. Conditions: elements of the greater field, a point of at most six that can be read. · What the program's exported calls on tables answer: contracts. Conditions: rows that can be read, lengths of at most 2 to the 40. · For the laws on tables: rows of a call's own under another one's marks; lengths. No condition but those that each theorem states. · The calls on tables at right arguments, told by elements: contracts. Conditions: elements of the greater field, tables and points whose sizes fit. -/
import Derived.Test.YtkpohajmcngjcaaGreatDoorBzat
import Derived.Test.YtkpohajmcngjcaaGreatDoorBzas
import Derived.Test.YtkpohajmcngjcaaGreatDoorBzau
import Derived.Test.YtkpohajmcngjcaaGreatDoorBzaz
import Derived.Test.YtkpohajmcngjcaaGreatDoorBzbm
import Derived.Test.YtkpohajmcngjcaaGreatDoorBzbi
namespace Go.Proofs.YtkpohajmcngjcaaGreatDoor
open Go.ChangeShapes Go.WideShapes Go.ChangeAt Go.RowKit
set_option linter.unusedVariables false
set_option maxRecDepth 100000
set_option linter.unusedSimpArgs false

theorem bd_half {t p T : Nat → El} {j m i : Nat} (hT : ∀ i, i < 2 * m → T i = El.bnd t p j i) (hi : i < m) : bdE T (p j) m i = El.bnd t p (j + 1) i := by
  unfold bdE
  rw [if_pos hi, El.bnd, El.fldE, El.fldE, hT _ (by omega), hT _ (by omega)]

set_option maxHeartbeats 2000000 in
theorem at_any' (n : Nat) (t : Nat → El) (c : Option Addr) (cap : Nat) (p : Nat → El) (w : World) (h : Hid (PairE w c n p)) (hn : n ≤ 6) : Calls Tryz.prog 56 #[.agg (cb (2 ^ n) t), .slice c n cap] w fun e w' => e = .returned (.agg #[.int .i64 (El.tat t p n).v.1, .int .i64 (El.tat t p n).v.2]) ∧ Chg nob w w' := by
  go_enter Tryz.func56, Tryz.ntmps56
  go_wp2
  go_loopw [9] (fun i W => ∃ (j m : Nat) (T : Nat → El), j ≤ n ∧ i = .int .i64 j ∧ Hid (m = 2 ^ (n - j)) ∧ Hid (∀ i, i < m → T i = El.bnd t p j i) ∧ Hid (Cub W w.heap.size m T) ∧ Hid (ElB W (w.heap.size + 1) El.zr) ∧ Hid (Chg nob w W)) (fun i _ => n - (intOf i).toNat)
  case atStart => exact ⟨0, 2 ^ n, t, Nat.zero_le _, rfl, hik rfl, hik (fun _ _ => rfl), hik ((Cub.new w _ t).keep ((Chg.refl nob _).alloc _)), hik (by simpa using ElB.zero (w.alloc (.cells (cb (2 ^ n) t) 97))), hik (((Chg.refl _ _).alloc _).alloc _)⟩
  case round =>
    obtain ⟨j, m, T, hj, rfl, HM, HT, HS, HZ, HG⟩ := hrel
    rename World => wi
    by_cases hlt : j < n
    · have hlt' : (j : Int) < (n : Int) := by omega
      have hj0 : (0 : Int) ≤ (j : Int) := by omega
      obtain ⟨xb, xo, ec, hxb, _, _⟩ := PairE.at_ (PairE.keep h.out HG.out) hlt
      subst ec
      have p0 := PairE.c0 (PairE.keep h.out HG.out) hlt
      have p1 := PairE.c1 (PairE.keep h.out HG.out) hlt
      have hm64 : m ≤ 64 := by rw [HM.out]; exact pow_le6 (by omega)
      obtain ⟨m2, hm2⟩ : ∃ m2, m2 = m / 2 := ⟨_, rfl⟩
      have hmm : m = 2 * m2 ∧ m2 = 2 ^ (n - (j + 1)) := by
        have e : 2 ^ (n - j) = 2 * 2 ^ (n - (j + 1)) := by rw [show n - j = (n - (j + 1)) + 1 by omega, Nat.pow_succ]; omega
        have := HM.out
        omega
      have HMM := hik hmm
      have HM2 := hik hm2
      clear hmm hm2
      go_wp2_with (first
        | ((with_reducible refine wpList_load_cub (.tmp 2) rfl rfl w.heap.size ?hx (HS.out.keep ((Chg.refl nob _).alloc _)) ?_); (case hx => rfl))
        | (go_at_call 95; refine (bound_any m T (p j) _ hm64).mono ?_; rintro e W1 ⟨rfl, k1⟩; have S1 := hik ((HS.out.keep ((Chg.refl nob _).alloc _)).keep k1); have Z1 := hik ((HZ.out.keep ((Chg.refl nob _).alloc _)).keep k1); have G1 := hik ((HG.out.alloc _).trans k1); clear k1)
        | ((with_reducible refine wpList_store_cub (s := m / 2) (t := bdE T (p j) (m / 2)) (.tmp 2) (.tmp 15) rfl rfl w.heap.size ?hx ?hy S1.out ?_); (case hx => rfl); (case hy => rfl); intro W2 r2 g2; have R2 := hik r2; have Z2 := hik (Z1.out.chg g2 (by omega)); have G2 := hik (Chg.near G1.out g2 (fun i e => by omega)); clear r2 g2))
      go_roundw
      case rel => exact ⟨j + 1, m / 2, bdE T (p j) (m / 2), hlt, by go_num, hik (by have := HMM.out; have := HM2.out; omega), hik (fun i hi => bd_half (m := m / 2) (fun i hi => HT.out i (by have := HMM.out; have := HM2.out; omega)) hi), R2, Z2, G2⟩
      case measure => simp [intOf]; omega
    · obtain rfl : n = j := by omega
      have hm1 : m = 1 := by rw [HM.out, Nat.sub_self]
      have HE := hik (show T 0 = El.tat t p n by rw [HT.out 0 (by omega), El.bnd_all])
      have c0 : wi.cell? ⟨w.heap.size, 1, none⟩ = some (.int .i64 (T 0).v.1) := HS.out.c0 (k := 0) (by omega)
      have c1 : wi.cell? ⟨w.heap.size, 1 + 1, none⟩ = some (.int .i64 (T 0).v.2) := HS.out.c1 (k := 0) (by omega)
      have z0 := HZ.out.c0
      have z1 := HZ.out.c1
      have f0 := HZ.out.fz 0
      have f1 := HZ.out.fz 1
      go_wp2
      have E2 := hik (HZ.out.set (T 0))
      have u0 := E2.out.c0
      have u1 := E2.out.c1
      rw [← HE.out]
      exact bodyPost_ret (v := .agg #[.int .i64 (T 0).v.1, .int .i64 (T 0).v.2]) (by simp [results, Tryz.results56, go_sem, u0, u1]) rfl ⟨rfl, chg2_at HG.out _ (fun l => absurd l (by omega)) _ _ _ _⟩
theorem at_N (N n : Nat) (hN : N = 2 ^ n) (t : Nat → El) (c : Option Addr) (cap : Nat) (p : Nat → El) (w : World) (h : Hid (PairE w c n p)) (hn : n ≤ 6) : Calls Tryz.prog 56 #[.agg (cb N t), .slice c n cap] w fun e w' => e = .returned (.agg #[.int .i64 (El.tat t p n).v.1, .int .i64 (El.tat t p n).v.2]) ∧ Chg nob w w' := by
  subst hN
  exact at_any' n t c cap p w h hn

end Go.Proofs.YtkpohajmcngjcaaGreatDoor

namespace Go.Proofs.YtkpohajmcngjcaaGreatDoor
open Go.ChangeShapes Go.WideShapes Go.ChangeAt Go.RowKit
set_option linter.unusedVariables false
set_option maxRecDepth 100000
set_option linter.unusedSimpArgs false

set_option maxHeartbeats 2000000 in
theorem tableAtX_any (c d : Option Addr) (n m cap cap' : Nat) (f g f' g' : Nat → Int) (w : World) (h : Hid (PairV w c n f g)) (h' : Hid (PairV w d m f' g')) (hn : n ≤ 1099511627776) (hm : m ≤ 1099511627776) :
    Calls Tryz.prog 26 #[.slice c n cap, .slice d m cap'] w fun e w' => e = .returned (.tuple #[.agg #[.int .i64 (tav f g n f' g' m).v.1, .int .i64 (tav f g n f' g' m).v.2], .int .i64 (tac f g n f' g' m)]) ∧ Chg nob w w' := by
  by_cases hl1 : 4096 < n
  · have hl' : 4096 < (n : Int) := by omega
    have HC := hik (show tac f g n f' g' m = 2 by unfold tac; rw [if_pos (Or.inl hl1)])
    have HV := hik (show tav f g n f' g' m = El.zr by unfold tav; rw [HC.out]; rfl)
    rw [HC.out, HV.out]
    go_enter Tryz.func26, Tryz.ntmps26
    go_wp2
    exact bodyPost_ret (v := .tuple #[.agg #[.int .i64 0, .int .i64 0], .int .i64 2]) (by simp [results, Tryz.results26, go_sem]) rfl ⟨rfl, (Chg.refl nob w).alloc _⟩
  by_cases hl2 : 4096 < m
  · have hl' : ¬ 4096 < (n : Int) := by omega
    have hl'' : 4096 < (m : Int) := by omega
    have HC := hik (show tac f g n f' g' m = 2 by unfold tac; rw [if_pos (Or.inr hl2)])
    have HV := hik (show tav f g n f' g' m = El.zr by unfold tav; rw [HC.out]; rfl)
    rw [HC.out, HV.out]
    go_enter Tryz.func26, Tryz.ntmps26
    go_wp2
    exact bodyPost_ret (v := .tuple #[.agg #[.int .i64 0, .int .i64 0], .int .i64 2]) (by simp [results, Tryz.results26, go_sem]) rfl ⟨rfl, (Chg.refl nob w).alloc _⟩
  have hl' : ¬ 4096 < (n : Int) := by omega
  have hl'' : ¬ 4096 < (m : Int) := by omega
  have hor : ¬ (4096 < n ∨ 4096 < m) := by omega
  have HOR := hik hor
  clear hor
  cases hk1 : tok f g n
  · have HC := hik (show tac f g n f' g' m = 1 by unfold tac; rw [if_neg HOR.out, hk1]; rfl)
    have HV := hik (show tav f g n f' g' m = El.zr by unfold tav; rw [HC.out]; rfl)
    rw [HC.out, HV.out]
    go_enter Tryz.func26, Tryz.ntmps26
    go_wp2_with (go_at_call 53; refine (tableOK_any c n cap f g _ (hik (h.out.keep ((Chg.refl nob w).alloc _))) hn).mono ?_; rintro e W1 ⟨he, k1⟩; rw [hk1] at he; subst he; have R1 := hik ((ElB.zero w).keep k1); have K1 := hik (((Chg.refl nob w).alloc _).trans k1); clear k1; have c0 : W1.cell? ⟨w.heap.size, 0, none⟩ = some (.int .i64 0) := R1.out.c0; have c1 : W1.cell? ⟨w.heap.size, 1, none⟩ = some (.int .i64 0) := R1.out.c1; have f0 := R1.out.fz 0; have f1 := R1.out.fz 1)
    have u0 : ((W1.setCell ⟨w.heap.size, 0, none⟩ (.int .i64 0)).setCell ⟨w.heap.size, 1, none⟩ (.int .i64 0)).cell? ⟨w.heap.size, 0, none⟩ = some (.int .i64 0) := (R1.out.set El.zr).c0
    have u1 : ((W1.setCell ⟨w.heap.size, 0, none⟩ (.int .i64 0)).setCell ⟨w.heap.size, 1, none⟩ (.int .i64 0)).cell? ⟨w.heap.size, 1, none⟩ = some (.int .i64 0) := (R1.out.set El.zr).c1
    exact bodyPost_ret (v := .tuple #[.agg #[.int .i64 0, .int .i64 0], .int .i64 1]) (by simp [results, Tryz.results26, go_sem, u0, u1]) rfl ⟨rfl, chg2_at K1.out w.heap.size (fun l => absurd l (by omega)) 0 1 (.int .i64 0) (.int .i64 0)⟩
  cases hk2 : pok f' g' m
  · have HC := hik (show tac f g n f' g' m = 1 by unfold tac; rw [if_neg HOR.out, hk1, hk2]; rfl)
    have HV := hik (show tav f g n f' g' m = El.zr by unfold tav; rw [HC.out]; rfl)
    rw [HC.out, HV.out]
    go_enter Tryz.func26, Tryz.ntmps26
    go_wp2_with (first | (go_at_call 53; refine (tableOK_any c n cap f g _ (hik (h.out.keep ((Chg.refl nob w).alloc _))) hn).mono ?_; rintro e W1 ⟨he, k1⟩; rw [hk1] at he; subst he; have R1 := hik ((ElB.zero w).keep k1); have K1 := hik (((Chg.refl nob w).alloc _).trans k1); clear k1; have c0 : W1.cell? ⟨w.heap.size, 0, none⟩ = some (.int .i64 0) := R1.out.c0; have c1 : W1.cell? ⟨w.heap.size, 1, none⟩ = some (.int .i64 0) := R1.out.c1; have f0 := R1.out.fz 0; have f1 := R1.out.fz 1) | (go_at_call 54; refine (pointOK_any d m cap' f' g' _ (hik (h'.out.keep K1.out)) hm).mono ?_; rintro e W2 ⟨he, k2⟩; rw [hk2] at he; subst he; have R2 := hik (R1.out.keep k2); have K2 := hik (K1.out.trans k2); clear k2 c0 c1 f0 f1; have c0 : W2.cell? ⟨w.heap.size, 0, none⟩ = some (.int .i64 0) := R2.out.c0; have c1 : W2.cell? ⟨w.heap.size, 1, none⟩ = some (.int .i64 0) := R2.out.c1; have f0 := R2.out.fz 0; have f1 := R2.out.fz 1))
    have u0 : ((W2.setCell ⟨w.heap.size, 0, none⟩ (.int .i64 0)).setCell ⟨w.heap.size, 1, none⟩ (.int .i64 0)).cell? ⟨w.heap.size, 0, none⟩ = some (.int .i64 0) := (R2.out.set El.zr).c0
    have u1 : ((W2.setCell ⟨w.heap.size, 0, none⟩ (.int .i64 0)).setCell ⟨w.heap.size, 1, none⟩ (.int .i64 0)).cell? ⟨w.heap.size, 1, none⟩ = some (.int .i64 0) := (R2.out.set El.zr).c1
    exact bodyPost_ret (v := .tuple #[.agg #[.int .i64 0, .int .i64 0], .int .i64 1]) (by simp [results, Tryz.results26, go_sem, u0, u1]) rfl ⟨rfl, chg2_at K2.out w.heap.size (fun l => absurd l (by omega)) 0 1 (.int .i64 0) (.int .i64 0)⟩
  by_cases hs : n = 2 ^ m
  rotate_left 1
  · have HC := hik (show tac f g n f' g' m = 8 by unfold tac; rw [if_neg HOR.out, hk1, hk2]; simp [hs])
    obtain ⟨h6, _⟩ := pok_le hk2
    have hsh := shl_pow h6
    have hne : ((n : Int) != 2 ^ m) = true := by
      have e : ((2 : Int) ^ m) = ((2 ^ m : Nat) : Int) := by simp
      rw [e]
      exact bne_iff_ne.2 (by omega)
    have HV := hik (show tav f g n f' g' m = El.zr by unfold tav; rw [HC.out]; rfl)
    rw [HC.out, HV.out]
    go_enter Tryz.func26, Tryz.ntmps26
    go_wp2_with (first | (go_at_call 53; refine (tableOK_any c n cap f g _ (hik (h.out.keep ((Chg.refl nob w).alloc _))) hn).mono ?_; rintro e W1 ⟨he, k1⟩; rw [hk1] at he; subst he; have R1 := hik ((ElB.zero w).keep k1); have K1 := hik (((Chg.refl nob w).alloc _).trans k1); clear k1; have c0 : W1.cell? ⟨w.heap.size, 0, none⟩ = some (.int .i64 0) := R1.out.c0; have c1 : W1.cell? ⟨w.heap.size, 1, none⟩ = some (.int .i64 0) := R1.out.c1; have f0 := R1.out.fz 0; have f1 := R1.out.fz 1) | (go_at_call 54; refine (pointOK_any d m cap' f' g' _ (hik (h'.out.keep K1.out)) hm).mono ?_; rintro e W2 ⟨he, k2⟩; rw [hk2] at he; subst he; have R2 := hik (R1.out.keep k2); have K2 := hik (K1.out.trans k2); clear k2 c0 c1 f0 f1; have c0 : W2.cell? ⟨w.heap.size, 0, none⟩ = some (.int .i64 0) := R2.out.c0; have c1 : W2.cell? ⟨w.heap.size, 1, none⟩ = some (.int .i64 0) := R2.out.c1; have f0 := R2.out.fz 0; have f1 := R2.out.fz 1))
    have u0 : ((W2.setCell ⟨w.heap.size, 0, none⟩ (.int .i64 0)).setCell ⟨w.heap.size, 1, none⟩ (.int .i64 0)).cell? ⟨w.heap.size, 0, none⟩ = some (.int .i64 0) := (R2.out.set El.zr).c0
    have u1 : ((W2.setCell ⟨w.heap.size, 0, none⟩ (.int .i64 0)).setCell ⟨w.heap.size, 1, none⟩ (.int .i64 0)).cell? ⟨w.heap.size, 1, none⟩ = some (.int .i64 0) := (R2.out.set El.zr).c1
    exact bodyPost_ret (v := .tuple #[.agg #[.int .i64 0, .int .i64 0], .int .i64 8]) (by simp [results, Tryz.results26, go_sem, u0, u1]) rfl ⟨rfl, chg2_at K2.out w.heap.size (fun l => absurd l (by omega)) 0 1 (.int .i64 0) (.int .i64 0)⟩
  have HC := hik (show tac f g n f' g' m = 0 by unfold tac; rw [if_neg HOR.out, hk1, hk2]; simp [hs])
  obtain ⟨h6, hok2⟩ := pok_le hk2
  obtain ⟨_, hok1⟩ := tok_p6 hk1
  have HV := hik (show tav f g n f' g' m = El.tat (fitE (elF f g) n zE) (elF f' g') m by
    unfold tav
    rw [HC.out, if_pos rfl]
    exact El.tat_congr (fun i hi => by unfold fitE; rw [if_pos (by omega)]) (fun _ _ => rfl))
  rw [HC.out, HV.out]
  have HS := hik hs
  have h64 : n ≤ 64 := by rw [hs]; exact pow_le6 h6
  have hsh := shl_pow h6
  have hne : ((n : Int) != 2 ^ m) = false := by rw [hs]; simp
  have HP := hik (PairE.of h.out hok1)
  have HP' := hik (PairE.of h'.out hok2)
  clear hs
  go_enter Tryz.func26, Tryz.ntmps26
  go_wp2_with (first
    | (first | (go_at_call 53; refine (tableOK_any c n cap f g _ (hik (h.out.keep ((Chg.refl nob w).alloc _))) hn).mono ?_; rintro e W1 ⟨he, k1⟩; rw [hk1] at he; subst he; have R1 := hik ((ElB.zero w).keep k1); have K1 := hik (((Chg.refl nob w).alloc _).trans k1); clear k1; have c0 : W1.cell? ⟨w.heap.size, 0, none⟩ = some (.int .i64 0) := R1.out.c0; have c1 : W1.cell? ⟨w.heap.size, 1, none⟩ = some (.int .i64 0) := R1.out.c1; have f0 := R1.out.fz 0; have f1 := R1.out.fz 1) | (go_at_call 54; refine (pointOK_any d m cap' f' g' _ (hik (h'.out.keep K1.out)) hm).mono ?_; rintro e W2 ⟨he, k2⟩; rw [hk2] at he; subst he; have R2 := hik (R1.out.keep k2); have K2 := hik (K1.out.trans k2); clear k2 c0 c1 f0 f1; have c0 : W2.cell? ⟨w.heap.size, 0, none⟩ = some (.int .i64 0) := R2.out.c0; have c1 : W2.cell? ⟨w.heap.size, 1, none⟩ = some (.int .i64 0) := R2.out.c1; have f0 := R2.out.fz 0; have f1 := R2.out.fz 1))
    | (go_at_call 55; refine (cubeFrom_any c n cap (elF f g) _ (hik (HP.out.keep K2.out)) h64).mono ?_; rintro e W3 ⟨rfl, k3⟩; have R3 := hik (R2.out.keep k3); have K3 := hik (K2.out.trans k3); clear k3 c0 c1 f0 f1)
    | (go_at_call 56; refine (at_N n m HS.out (fitE (elF f g) n zE) d cap' (elF f' g') _ (hik (HP'.out.keep K3.out)) h6).mono ?_; rintro e W4 ⟨rfl, k4⟩; have R4 := hik (R3.out.keep k4); have K4 := hik (K3.out.trans k4); clear k4; have c0 : W4.cell? ⟨w.heap.size, 0, none⟩ = some (.int .i64 0) := R4.out.c0; have c1 : W4.cell? ⟨w.heap.size, 1, none⟩ = some (.int .i64 0) := R4.out.c1; have f0 := R4.out.fz 0; have f1 := R4.out.fz 1))
  have u0 : ((W4.setCell ⟨w.heap.size, 0, none⟩ (.int .i64 (El.tat (fitE (elF f g) n zE) (elF f' g') m).v.1)).setCell ⟨w.heap.size, 1, none⟩ (.int .i64 (El.tat (fitE (elF f g) n zE) (elF f' g') m).v.2)).cell? ⟨w.heap.size, 0, none⟩ = some (.int .i64 (El.tat (fitE (elF f g) n zE) (elF f' g') m).v.1) := (R4.out.set (El.tat (fitE (elF f g) n zE) (elF f' g') m)).c0
  have u1 : ((W4.setCell ⟨w.heap.size, 0, none⟩ (.int .i64 (El.tat (fitE (elF f g) n zE) (elF f' g') m).v.1)).setCell ⟨w.heap.size, 1, none⟩ (.int .i64 (El.tat (fitE (elF f g) n zE) (elF f' g') m).v.2)).cell? ⟨w.heap.size, 1, none⟩ = some (.int .i64 (El.tat (fitE (elF f g) n zE) (elF f' g') m).v.2) := (R4.out.set (El.tat (fitE (elF f g) n zE) (elF f' g') m)).c1
  exact bodyPost_ret (v := .tuple #[.agg #[.int .i64 (El.tat (fitE (elF f g) n zE) (elF f' g') m).v.1, .int .i64 (El.tat (fitE (elF f g) n zE) (elF f' g') m).v.2], .int .i64 0]) (by simp [results, Tryz.results26, go_sem, u0, u1]) rfl ⟨rfl, chg2_at K4.out w.heap.size (fun l => absurd l (by omega)) 0 1 (.int .i64 (El.tat (fitE (elF f g) n zE) (elF f' g') m).v.1) (.int .i64 (El.tat (fitE (elF f g) n zE) (elF f' g') m).v.2)⟩


end Go.Proofs.YtkpohajmcngjcaaGreatDoor

namespace Go.Proofs.YtkpohajmcngjcaaGreatDoor
open Go.ChangeShapes Go.WideShapes Go.ChangeAt Go.RowKit
set_option linter.unusedVariables false
set_option linter.unusedSimpArgs false


end Go.Proofs.YtkpohajmcngjcaaGreatDoor

namespace Go.Proofs.YtkpohajmcngjcaaGreatDoor
open Go.ChangeShapes Go.WideShapes Go.ChangeAt Go.RowKit
set_option linter.unusedVariables false
set_option maxRecDepth 100000
set_option linter.unusedSimpArgs false

theorem pok_el (t : Nat → El) {n : Nat} (h : n ≤ 6) : pok (cA t) (cB t) n = true := by unfold pok; rw [okP_el, decide_eq_true h]; rfl
theorem tok_el (t : Nat → El) {n N : Nat} (h : n ≤ 6) (hN : N = 2 ^ n) : tok (cA t) (cB t) N = true := by unfold tok; rw [okP_el, p6_yes h hN]; rfl

theorem tableAt_el (c d : Option Addr) (N n cap cap' : Nat) (hN : N = 2 ^ n) (t p : Nat → El) (w : World) (h : Hid (PairE w c N t)) (h' : Hid (PairE w d n p)) (h6 : n ≤ 6) : Calls Tryz.prog 26 #[.slice c N cap, .slice d n cap'] w fun e w' => e = .returned (.tuple #[.agg #[.int .i64 (El.tat t p n).v.1, .int .i64 (El.tat t p n).v.2], .int .i64 0]) ∧ Chg nob w w' := by
  have h64 := pow_le6 h6
  have hc : tac (cA t) (cB t) N (cA p) (cB p) n = 0 := by unfold tac; rw [if_neg (by omega), tok_el t h6 hN, pok_el p h6]; simp [hN]
  have hv : tav (cA t) (cB t) N (cA p) (cB p) n = El.tat t p n := by unfold tav; rw [hc, if_pos rfl, elF_el, elF_el]
  have r := tableAtX_any c d N n cap cap' (cA t) (cB t) (cA p) (cB p) w h h' (by omega) (by omega)
  rw [hc, hv] at r
  exact r


end Go.Proofs.YtkpohajmcngjcaaGreatDoor
