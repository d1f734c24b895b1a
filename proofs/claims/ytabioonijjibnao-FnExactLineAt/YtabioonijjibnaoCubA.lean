/- What the program's value of a table by value at a point answers: a contract. Conditions: elements of the greater field, a point of at most six that can be read. -/
import Derived.Test.YtabioonijjibnaoCubG
import Derived.Test.YtabioonijjibnaoBitE
namespace Go.Proofs.Ytabioonijjibnao
open Go.ChangeShapes Go.WideShapes Go.ChangeAt Go.RowKit
set_option linter.unusedVariables false
set_option maxRecDepth 100000
set_option linter.unusedSimpArgs false

theorem bd_half {t p T : Nat → El} {j m i : Nat} (hT : ∀ i, i < 2 * m → T i = El.bnd t p j i) (hi : i < m) : bdE T (p j) m i = El.bnd t p (j + 1) i := by
  unfold bdE
  rw [if_pos hi, El.bnd, El.fldE, El.fldE, hT _ (by omega), hT _ (by omega)]

set_option maxHeartbeats 2000000 in
theorem at_any' (n : Nat) (t : Nat → El) (c : Option Addr) (cap : Nat) (p : Nat → El) (w : World) (h : Hid (PairE w c n p)) (hn : n ≤ 6) : Calls Try.prog 31 #[.agg (cb (2 ^ n) t), .slice c n cap] w fun e w' => e = .returned (.agg #[.int .i64 (El.tat t p n).v.1, .int .i64 (El.tat t p n).v.2]) ∧ Chg nob w w' := by
  go_enter Try.func31, Try.ntmps31
  go_wp2
  go_loopw [9] (fun i W => ∃ (j m : Nat) (T : Nat → El), j ≤ n ∧ i = .int .i64 j ∧ Hid (m = 2 ^ (n - j)) ∧ Hid (∀ i, i < m → T i = El.bnd t p j i) ∧ Hid (Cub W w.heap.size m T) ∧ Hid (ElB W (w.heap.size + 1) El.zr) ∧ Hid (Chg nob w W)) (fun i _ => n - (intOf i).toNat)
  case atStart => exact ⟨0, 2 ^ n, t, Nat.zero_le _, rfl, hik rfl, hik (fun _ _ => rfl), hik ((Cub.new w _ t).keep ((Chg.refl nob _).alloc _)), hik (by simpa using ElB.zero (w.alloc (.cells (cb (2 ^ n) t) 47))), hik (((Chg.refl _ _).alloc _).alloc _)⟩
  case round =>
    obtain ⟨j, m, T, hj, rfl, HM, HT, HS, HZ, HG⟩ := hrel
    rename World => wi
    by_cases hlt : j < n
    · have hlt' : (j : Int) < (n : Int) := by omega
      have hj0 : (0 : Int) ≤ (j : Int) := by omega
      obtain ⟨xb, xo, ec, hxb, _, _⟩ := PairE.at_ (PairE.keep h.out HG.out) hlt
      subst ec
      have p0 := PairE.c0 (PairE.keep h.out HG.out) hlt
      have p1 := PairE.c1 (PairE.keep h.out HG.out) hlt
      have hm64 : m ≤ 64 := by rw [HM.out]; exact pow_le6 (by omega)
      obtain ⟨m2, hm2⟩ : ∃ m2, m2 = m / 2 := ⟨_, rfl⟩
      have hmm : m = 2 * m2 ∧ m2 = 2 ^ (n - (j + 1)) := by
        have e : 2 ^ (n - j) = 2 * 2 ^ (n - (j + 1)) := by rw [show n - j = (n - (j + 1)) + 1 by omega, Nat.pow_succ]; omega
        have := HM.out
        omega
      have HMM := hik hmm
      have HM2 := hik hm2
      clear hmm hm2
      go_wp2_with (first
        | ((with_reducible refine wpList_load_cub (.tmp 2) rfl rfl w.heap.size ?hx (HS.out.keep ((Chg.refl nob _).alloc _)) ?_); (case hx => rfl))
        | (go_at_call 35; refine (bound_any m T (p j) _ hm64).mono ?_; rintro e W1 ⟨rfl, k1⟩; have S1 := hik ((HS.out.keep ((Chg.refl nob _).alloc _)).keep k1); have Z1 := hik ((HZ.out.keep ((Chg.refl nob _).alloc _)).keep k1); have G1 := hik ((HG.out.alloc _).trans k1); clear k1)
        | ((with_reducible refine wpList_store_cub (s := m / 2) (t := bdE T (p j) (m / 2)) (.tmp 2) (.tmp 15) rfl rfl w.heap.size ?hx ?hy S1.out ?_); (case hx => rfl); (case hy => rfl); intro W2 r2 g2; have R2 := hik r2; have Z2 := hik (Z1.out.chg g2 (by omega)); have G2 := hik (Chg.near G1.out g2 (fun i e => by omega)); clear r2 g2))
      go_roundw
      case rel => exact ⟨j + 1, m / 2, bdE T (p j) (m / 2), hlt, by go_num, hik (by have := HMM.out; have := HM2.out; omega), hik (fun i hi => bd_half (m := m / 2) (fun i hi => HT.out i (by have := HMM.out; have := HM2.out; omega)) hi), R2, Z2, G2⟩
      case measure => simp [intOf]; omega
    · obtain rfl : n = j := by omega
      have hm1 : m = 1 := by rw [HM.out, Nat.sub_self]
      have HE := hik (show T 0 = El.tat t p n by rw [HT.out 0 (by omega), El.bnd_all])
      have c0 : wi.cell? ⟨w.heap.size, 1, none⟩ = some (.int .i64 (T 0).v.1) := HS.out.c0 (k := 0) (by omega)
      have c1 : wi.cell? ⟨w.heap.size, 1 + 1, none⟩ = some (.int .i64 (T 0).v.2) := HS.out.c1 (k := 0) (by omega)
      have z0 := HZ.out.c0
      have z1 := HZ.out.c1
      have f0 := HZ.out.fz 0
      have f1 := HZ.out.fz 1
      go_wp2
      have E2 := hik (HZ.out.set (T 0))
      have u0 := E2.out.c0
      have u1 := E2.out.c1
      rw [← HE.out]
      exact bodyPost_ret (v := .agg #[.int .i64 (T 0).v.1, .int .i64 (T 0).v.2]) (by simp [results, Try.results31, go_sem, u0, u1]) rfl ⟨rfl, chg2_at HG.out _ (fun l => absurd l (by omega)) _ _ _ _⟩
theorem at_N (N n : Nat) (hN : N = 2 ^ n) (t : Nat → El) (c : Option Addr) (cap : Nat) (p : Nat → El) (w : World) (h : Hid (PairE w c n p)) (hn : n ≤ 6) : Calls Try.prog 31 #[.agg (cb N t), .slice c n cap] w fun e w' => e = .returned (.agg #[.int .i64 (El.tat t p n).v.1, .int .i64 (El.tat t p n).v.2]) ∧ Chg nob w w' := by
  subst hN
  exact at_any' n t c cap p w h hn
end Go.Proofs.Ytabioonijjibnao
