/- What the model's norm, inverse and power answer, and the laws' own helpers on elements: contracts. Conditions: those of each theorem. -/
import Derived.Test.YtimpmiamfpnjaajExtS
namespace Go.Proofs.Ytimpmiamfpnjaaj
open Go.ChangeShapes Go.WideShapes Go.ChangeAt Go.RowKit
set_option linter.unusedVariables false
set_option linter.unusedSimpArgs false

set_option maxHeartbeats 2000000 in
theorem l02Norm_any (a b : Int) (w : World) (a0 : 0 ≤ a) (a1 : a < 2130706433) (b0 : 0 ≤ b) (b1 : b < 2130706433) :
    Calls Try.prog 40 #[.agg #[.int .i64 a, .int .i64 b]] w fun e w' => e = .returned (.int .i64 (Fld.nm a b)) ∧ Chg nob w w' := by
  have q0 : 0 ≤ b * b % 2130706433 := mod_lo _
  have q1 : b * b % 2130706433 < 2130706433 := mod_hi _
  have hw : IntKind.i64.wrap (3 * (b * b % 2130706433)) = 3 * (b * b % 2130706433) := by rw [IntKind.wrap_i64]; omega
  have ht : (3 * (b * b % 2130706433)).tmod 2130706433 = 3 * (b * b % 2130706433) % 2130706433 := Int.tmod_eq_emod_of_nonneg (by omega)
  go_enter Try.func40, Try.ntmps40
  go_wp2
  go_region_held3 (fun w' => w'.cell? ⟨w.heap.size, 0, none⟩ = some (.int .i64 a) ∧ w'.cell? ⟨w.heap.size, 1, none⟩ = some (.int .i64 b)) (go_keep) (first | (go_at_call 50; refine (l01Mul_any _ _ _  (by first | assumption | omega) (by first | assumption | omega) (by first | assumption | omega) (by first | assumption | omega)).mono ?_; rintro e w' ⟨rfl, rfl⟩) | (go_at_call 54; refine (l01Sub_any _ _ _  (by first | assumption | omega) (by first | assumption | omega) (by first | assumption | omega) (by first | assumption | omega)).mono ?_; rintro e w' ⟨rfl, rfl⟩))
  go_wp2
  go_ret
  exact ⟨ret_int (by unfold Fld.nm; omega), (by repeat (first | with_reducible exact Chg.refl _ _ | with_reducible refine Chg.alloc ?_ _ | with_reducible refine Chg.drewN ?_ _ | with_reducible refine Chg.drew ?_ | with_reducible refine Chg.setCell ?_ (fun l => absurd l (by dsimp only; omega)) _ | with_reducible refine Chg.trans ?_ (by assumption)))⟩

set_option maxHeartbeats 2000000 in
theorem l02Inverse_any (a b : Int) (w : World) (a0 : 0 ≤ a) (a1 : a < 2130706433) (b0 : 0 ≤ b) (b1 : b < 2130706433) :
    Calls Try.prog 38 #[.agg #[.int .i64 a, .int .i64 b]] w fun e w' => e = .returned (.agg #[.int .i64 (Fld.iA a b), .int .i64 (Fld.iB a b)]) ∧ Chg nob w w' := by
  have m0 := Fld.nm_lo a b
  have m1 := Fld.nm_hi a b
  have i0 : 0 ≤ Fld.pw (Fld.nm a b) 2130706431 % 2130706433 := mod_lo _
  have i1 : Fld.pw (Fld.nm a b) 2130706431 % 2130706433 < 2130706433 := mod_hi _
  go_enter Try.func38, Try.ntmps38
  go_wp2_with (first | (go_at_call 40; refine (l02Norm_any _ _ _  (by assumption) (by assumption) (by assumption) (by assumption)).mono ?_; rintro e w1 ⟨rfl, hk⟩; obtain ⟨hc, hf, hz⟩ := kcell hk (w.heap.size + 2) (by first | assumption | simp)) | (go_at_call 53; refine (l01Inverse_any _ _ (by assumption) (by assumption)).mono ?_; rintro e w' ⟨rfl, rfl⟩))
  go_region_held3 (fun w' => w'.cell? ⟨w.heap.size, 0, none⟩ = some (.int .i64 a) ∧ w'.cell? ⟨w.heap.size, 1, none⟩ = some (.int .i64 b)) (go_keep) (first | (go_at_call 50; refine (l01Mul_any _ _ _  (by first | assumption | omega) (by first | assumption | omega) (by first | assumption | omega) (by first | assumption | omega)).mono ?_; rintro e w' ⟨rfl, rfl⟩) | (go_at_call 54; refine (l01Sub_any _ _ _  (by first | assumption | omega) (by first | assumption | omega) (by first | assumption | omega) (by first | assumption | omega)).mono ?_; rintro e w' ⟨rfl, rfl⟩))
  go_wp2
  exact bodyPost_ret (v := .agg #[.int .i64 (Fld.iA a b), .int .i64 (Fld.iB a b)]) (by simp [results, Try.results38, go_sem, *, Fld.iA, Fld.iB, Fld.iv1, Fld.ng]) rfl ⟨rfl, (by repeat (first | with_reducible exact Chg.refl _ _ | with_reducible refine Chg.alloc ?_ _ | with_reducible refine Chg.drewN ?_ _ | with_reducible refine Chg.drew ?_ | with_reducible refine Chg.setCell ?_ (fun l => absurd l (by dsimp only; omega)) _ | with_reducible refine Chg.trans ?_ (by assumption)))⟩

set_option maxHeartbeats 400000 in
theorem l02Of_any (n : Int) (w : World) :
    Calls Try.prog 52 #[.int .i64 n] w fun e w' => e = .returned (.agg #[.int .i64 n, .int .i64 0]) ∧ w' = w.alloc (.cells #[.int .i64 n, .int .i64 0] 24) := by
  go_enter Try.func52, Try.ntmps52
  go_wp2
  exact bodyPost_ret (v := .agg #[.int .i64 n, .int .i64 0]) (by simp [results, Try.results52, go_sem]) rfl ⟨rfl, rfl⟩

/-- As PM, a block between. -/
structure PN (w W : World) (t : TypeId) (x1 x2 y1 y2 : Int) : Prop where
  rx : W.rowIs w.heap.size t 2 (pi2 x1 x2)
  rr : W.rowIs (w.heap.size + 1) t 2 (pi2 0 0)
  ry : W.rowIs (w.heap.size + 1 + 1 + 1) t 2 (pi2 y1 y2)
  chg : Chg nob w W
  size : w.heap.size + 4 ≤ W.heap.size
theorem PN.keep {w W W' : World} {t : TypeId} {x1 x2 y1 y2 : Int} (h : PN w W t x1 x2 y1 y2) (k : Chg nob W W') : PN w W' t x1 x2 y1 y2 :=
  ⟨rowIs_keep h.rx k, rowIs_keep h.rr k, rowIs_keep h.ry k, h.chg.trans k, Nat.le_trans h.size k.size⟩
theorem PN.setX {w W : World} {t : TypeId} {x1 x2 y1 y2 : Int} (h : PN w W t x1 x2 y1 y2) (u v : Int) : PN w ((W.setCell ⟨w.heap.size, 0, none⟩ (.int .i64 u)).setCell ⟨w.heap.size, 1, none⟩ (.int .i64 v)) t u v y1 y2 :=
  ⟨row2_set h.rx _ _, row2_other h.rr (by omega) _ _, row2_other h.ry (by omega) _ _, chg2_set h.chg _ (fun l => absurd l (by omega)) _ _, by simpa using h.size⟩
theorem PN.setY {w W : World} {t : TypeId} {x1 x2 y1 y2 : Int} (h : PN w W t x1 x2 y1 y2) (u v : Int) : PN w ((W.setCell ⟨w.heap.size + 1 + 1 + 1, 0, none⟩ (.int .i64 u)).setCell ⟨w.heap.size + 1 + 1 + 1, 1, none⟩ (.int .i64 v)) t x1 x2 u v :=
  ⟨row2_other h.rx (by omega) _ _, row2_other h.rr (by omega) _ _, row2_set h.ry _ _, chg2_set h.chg _ (fun l => absurd l (by omega)) _ _, by simpa using h.size⟩
theorem PN.new (w : World) (t : TypeId) (x1 x2 y1 y2 : Int) : PN w ((((w.alloc (.cells #[.int .i64 x1, .int .i64 x2] t)).alloc (.cells #[.int .i64 0, .int .i64 0] t)).alloc (.cells #[.int .i64 y1, .int .i64 y2] t)).alloc (.cells #[.int .i64 y1, .int .i64 y2] t)) t x1 x2 y1 y2 :=
  ⟨(((row2_new w _ _ t).alloc _).alloc _).alloc _, by have h := ((row2_new (w.alloc (.cells #[.int .i64 x1, .int .i64 x2] t)) (.int .i64 0) (.int .i64 0) t).alloc (.cells #[.int .i64 y1, .int .i64 y2] t)).alloc (.cells #[.int .i64 y1, .int .i64 y2] t); simpa [pi2] using h,
   by have h := row2_new (((w.alloc (.cells #[.int .i64 x1, .int .i64 x2] t)).alloc (.cells #[.int .i64 0, .int .i64 0] t)).alloc (.cells #[.int .i64 y1, .int .i64 y2] t)) (.int .i64 y1) (.int .i64 y2) t; simpa [pi2] using h, ((((Chg.refl _ _).alloc _).alloc _).alloc _).alloc _, by simp⟩

set_option maxHeartbeats 2000000 in
theorem l02Pow_any (a b : Int) (k : Nat) (w : World) (a0 : 0 ≤ a) (a1 : a < 2130706433) (b0 : 0 ≤ b) (b1 : b < 2130706433) (hk : (k : Int) ≤ 9223372036854775807) :
    Calls Try.prog 36 #[.agg #[.int .i64 a, .int .i64 b], .int .i64 k] w fun e w' => e = .returned (.agg #[.int .i64 (Fld.ep (a, b) k).1, .int .i64 (Fld.ep (a, b) k).2]) ∧ Chg nob w w' := by
  go_enter Try.func36, Try.ntmps36
  go_wp2_with (go_at_call 52; refine (l02Of_any _ _).mono ?_; rintro e w' ⟨rfl, rfl⟩)
  go_loopw [1] (fun n W => ∃ (x1 x2 y1 y2 : Int) (m : Nat), m ≤ k ∧ n = .int .i64 m ∧ Hid (Fld.Red (x1, x2)) ∧ Hid (Fld.Red (y1, y2)) ∧ Hid (Fld.mu (y1, y2) (Fld.ep (x1, x2) m) = Fld.ep (a, b) k) ∧ Hid (PN w W 24 x1 x2 y1 y2)) (fun n _ => (intOf n).toNat)
  case atStart => exact ⟨a, b, 1, 0, k, Nat.le_refl _, rfl, hide ⟨a0, a1, b0, b1⟩, hide ⟨by decide, by decide, by decide, by decide⟩, hide (Fld.one_mu (Fld.ep_red _ _)), hide (PN.new w _ _ _ _ _)⟩
  case round =>
    obtain ⟨x1, x2, y1, y2, m, hm, rfl, HX, HY, HE, HP⟩ := hrel
    obtain ⟨x10, x11, x20, x21⟩ := HX.out
    obtain ⟨y10, y11, y20, y21⟩ := HY.out
    dsimp only at x10 x11 x20 x21 y10 y11 y20 y21
    have cx0 := row2_c0 HP.out.rx
    have cx1 := row2_c1 HP.out.rx
    have cy0 := row2_c0 HP.out.ry
    have cy1 := row2_c1 HP.out.ry
    have cr0 := row2_c0 HP.out.rr
    have cr1 := row2_c1 HP.out.rr
    have fx0 := HP.out.rx.frozen 0
    have fx1 := HP.out.rx.frozen 1
    have fy0 := HP.out.ry.frozen 0
    have fy1 := HP.out.ry.frozen 1
    have fr0 := HP.out.rr.frozen 0
    have fr1 := HP.out.rr.frozen 1
    have hz := HP.out.size
    by_cases hz0 : 0 < m
    · have hd : m % 2 = 0 ∨ m % 2 = 1 := by omega
      rcases hd with hd | hd
      · have hdi : (m : Int) % 2 = 0 := by omega
        go_wp2_with fail
        refine (l02Mul_any _ _ _ _ _ (by assumption) (by assumption) (by assumption) (by assumption) (by assumption) (by assumption) (by assumption) (by assumption)).mono ?_
        rintro e w1 ⟨rfl, hk1⟩
        obtain ⟨hc1, hf1, hz1⟩ := kcell hk1 (w.heap.size + 4) hz
        go_wp2
        go_roundw
        case rel => exact ⟨_, _, y1, y2, m / 2, by omega, by go_num, hide (Fld.mu_red (x1, x2) (x1, x2)), HY, hide ((Fld.ep_even (y1, y2) (x1, x2) m hd).trans HE.out), hide ((HP.out.keep hk1).setX _ _)⟩
        case measure => simp [intOf]; omega
      · have hdi : (m : Int) % 2 = 1 := by omega
        go_wp2_with fail
        refine (l02Mul_any _ _ _ _ _ (by assumption) (by assumption) (by assumption) (by assumption) (by assumption) (by assumption) (by assumption) (by assumption)).mono ?_
        rintro e w1 ⟨rfl, hk1⟩
        obtain ⟨hc1, hf1, hz1⟩ := kcell hk1 (w.heap.size + 4) hz
        go_wp2_with fail
        refine (l02Mul_any _ _ _ _ _ (by assumption) (by assumption) (by assumption) (by assumption) (by assumption) (by assumption) (by assumption) (by assumption)).mono ?_
        rintro e w2 ⟨rfl, hk2⟩
        obtain ⟨hc2, hf2, hz2⟩ := kcell hk2 (w.heap.size + 4) (by simpa using hz1)
        go_wp2
        go_roundw
        case rel => exact ⟨_, _, _, _, m / 2, by omega, by go_num, hide (Fld.mu_red (x1, x2) (x1, x2)), hide (Fld.mu_red (y1, y2) (x1, x2)), hide ((Fld.ep_odd (y1, y2) (x1, x2) m hd).trans HE.out), hide ((((HP.out.keep hk1).setY _ _).keep hk2).setX _ _)⟩
        case measure => simp [intOf]; omega
    · have hz1 : m = 0 := by omega
      subst hz1
      have HF : Hid (Fld.ep (a, b) k = (y1, y2)) := hide (HE.out.symm.trans (Fld.mu_one HY.out))
      have HC := hide HP.out.chg
      go_wp2
      exact bodyPost_ret (v := .agg #[.int .i64 y1, .int .i64 y2]) (by simp [results, Try.results36, go_sem, *]) rfl ⟨by rw [HF.out], chg2_set HC.out (w.heap.size + 1) (fun l => absurd l (by omega)) _ _⟩

set_option maxHeartbeats 1000000 in
theorem sNorm_any (a b : Int) (w : World) :
    Calls Try.prog 17 #[.agg #[.int .i64 a, .int .i64 b]] w fun e w' => e = .returned (.tuple #[.int .i64 (e1 a b (Fld.nm a b)), .int .i64 (e1bad a b)]) ∧ Chg nob w w' := by
  cases ha : eok a b
  · go_enter Try.func17, Try.ntmps17
    go_wp2_with (go_at_call 32; refine (sExtOK_any _ _ _  ).mono ?_; rintro e w1 ⟨rfl, hk⟩; obtain ⟨hc, hf, hz⟩ := kcell hk (w.heap.size + 1) (by first | assumption | simp))
    go_ret2
    exact ⟨ret_two (by simp [e1, ha]) (by simp [e1bad, ha]), (by repeat (first | with_reducible exact Chg.refl _ _ | with_reducible refine Chg.alloc ?_ _ | with_reducible refine Chg.drewN ?_ _ | with_reducible refine Chg.drew ?_ | with_reducible refine Chg.setCell ?_ (fun l => absurd l (by dsimp only; omega)) _ | with_reducible refine Chg.trans ?_ (by assumption)))⟩
  · skip
    have a0 := fok_lo (eok_a ha)
    have a1 := fok_hi (eok_a ha)
    have b0 := fok_lo (eok_b ha)
    have b1 := fok_hi (eok_b ha)
    go_enter Try.func17, Try.ntmps17
    go_wp2_with (first | (go_at_call 32; refine (sExtOK_any _ _ _  ).mono ?_; rintro e w1 ⟨rfl, hk⟩; obtain ⟨hc, hf, hz⟩ := kcell hk (w.heap.size + 1) (by first | assumption | simp)) | (go_at_call 40; refine (l02Norm_any _ _ _  (by assumption) (by assumption) (by assumption) (by assumption)).mono ?_; rintro e w1 ⟨rfl, hk⟩; obtain ⟨hc, hf, hz⟩ := kcell hk (w.heap.size + 1) (by first | assumption | simp)))
    go_ret2
    exact ⟨ret_two (by simp [e1, ha]) (by simp [e1bad, ha]), (by repeat (first | with_reducible exact Chg.refl _ _ | with_reducible refine Chg.alloc ?_ _ | with_reducible refine Chg.drewN ?_ _ | with_reducible refine Chg.drew ?_ | with_reducible refine Chg.setCell ?_ (fun l => absurd l (by dsimp only; omega)) _ | with_reducible refine Chg.trans ?_ (by assumption)))⟩

set_option maxHeartbeats 1000000 in
theorem sExtPow_any (a b n : Int) (w : World) (hn : n ≤ 9223372036854775807) :
    Calls Try.prog 13 #[.agg #[.int .i64 a, .int .i64 b], .int .i64 n] w fun e w' => e = .returned (.tuple #[.agg #[.int .i64 (powE1 a b n), .int .i64 (powE2 a b n)], .int .i64 (powEc a b n)]) ∧ Chg nob w w' := by
  cases ha : eok a b
  · go_enter Try.func13, Try.ntmps13
    go_wp2_with (go_at_call 32; refine (sExtOK_any _ _ _  ).mono ?_; rintro e w1 ⟨rfl, hk⟩; obtain ⟨hc, hf, hz⟩ := kcell hk (w.heap.size + 2) (by first | assumption | simp))
    exact bodyPost_ret (v := .tuple #[.agg #[.int .i64 (powE1 a b n), .int .i64 (powE2 a b n)], .int .i64 (powEc a b n)]) (by simp [results, Try.results13, go_sem, *, powE1, powE2, powEc]) rfl ⟨rfl, (by repeat (first | with_reducible exact Chg.refl _ _ | with_reducible refine Chg.alloc ?_ _ | with_reducible refine Chg.drewN ?_ _ | with_reducible refine Chg.drew ?_ | with_reducible refine Chg.setCell ?_ (fun l => absurd l (by dsimp only; omega)) _ | with_reducible refine Chg.trans ?_ (by assumption)))⟩
  · by_cases h0 : n < 0
    · go_enter Try.func13, Try.ntmps13
      go_wp2_with (go_at_call 32; refine (sExtOK_any _ _ _  ).mono ?_; rintro e w1 ⟨rfl, hk⟩; obtain ⟨hc, hf, hz⟩ := kcell hk (w.heap.size + 2) (by first | assumption | simp))
      exact bodyPost_ret (v := .tuple #[.agg #[.int .i64 (powE1 a b n), .int .i64 (powE2 a b n)], .int .i64 (powEc a b n)]) (by simp [results, Try.results13, go_sem, *, powE1, powE2, powEc]) rfl ⟨rfl, (by repeat (first | with_reducible exact Chg.refl _ _ | with_reducible refine Chg.alloc ?_ _ | with_reducible refine Chg.drewN ?_ _ | with_reducible refine Chg.drew ?_ | with_reducible refine Chg.setCell ?_ (fun l => absurd l (by dsimp only; omega)) _ | with_reducible refine Chg.trans ?_ (by assumption)))⟩
    · have a0 := fok_lo (eok_a ha)
      have a1 := fok_hi (eok_a ha)
      have b0 := fok_lo (eok_b ha)
      have b1 := fok_hi (eok_b ha)
      obtain ⟨k, rfl⟩ := Int.eq_ofNat_of_zero_le (show 0 ≤ n by omega)
      have q1 : powE1 a b k = (Fld.ep (a, b) k).1 := by simp [powE1, ha, h0]
      have q2 : powE2 a b k = (Fld.ep (a, b) k).2 := by simp [powE2, ha, h0]
      have q3 : powEc a b k = 0 := by simp [powEc, ha, h0]
      rw [q1, q2, q3]
      clear q1 q2 q3
      go_enter Try.func13, Try.ntmps13
      go_wp2_with (first | (go_at_call 32; refine (sExtOK_any _ _ _  ).mono ?_; rintro e w1 ⟨rfl, hk⟩; obtain ⟨hc, hf, hz⟩ := kcell hk (w.heap.size + 2) (by first | assumption | simp)) | (go_at_call 36; refine (l02Pow_any _ _ _ _ (by assumption) (by assumption) (by assumption) (by assumption) (by assumption)).mono ?_; rintro e w1 ⟨rfl, hk⟩; obtain ⟨hc, hf, hz⟩ := kcell hk (w.heap.size + 2) (by first | assumption | simp)))
      exact bodyPost_ret (v := .tuple #[.agg #[.int .i64 (Fld.ep (a, b) k).1, .int .i64 (Fld.ep (a, b) k).2], .int .i64 0]) (by simp [results, Try.results13, go_sem, *]) rfl ⟨rfl, (by repeat (first | with_reducible exact Chg.refl _ _ | with_reducible refine Chg.alloc ?_ _ | with_reducible refine Chg.drewN ?_ _ | with_reducible refine Chg.drew ?_ | with_reducible refine Chg.setCell ?_ (fun l => absurd l (by dsimp only; omega)) _ | with_reducible refine Chg.trans ?_ (by assumption)))⟩

set_option maxHeartbeats 1000000 in
theorem sExtInverse_any (a b : Int) (w : World) :
    Calls Try.prog 15 #[.agg #[.int .i64 a, .int .i64 b]] w fun e w' => e = .returned (.tuple #[.agg #[.int .i64 (invE1 a b), .int .i64 (invE2 a b)], .int .i64 (invEc a b)]) ∧ Chg nob w w' := by
  cases ha : eok a b
  · go_enter Try.func15, Try.ntmps15
    go_wp2_with (go_at_call 32; refine (sExtOK_any _ _ _  ).mono ?_; rintro e w1 ⟨rfl, hk⟩; obtain ⟨hc, hf, hz⟩ := kcell hk (w.heap.size + 2) (by first | assumption | simp))
    exact bodyPost_ret (v := .tuple #[.agg #[.int .i64 (invE1 a b), .int .i64 (invE2 a b)], .int .i64 (invEc a b)]) (by simp [results, Try.results15, go_sem, *, invE1, invE2, invEc]) rfl ⟨rfl, (by repeat (first | with_reducible exact Chg.refl _ _ | with_reducible refine Chg.alloc ?_ _ | with_reducible refine Chg.drewN ?_ _ | with_reducible refine Chg.drew ?_ | with_reducible refine Chg.setCell ?_ (fun l => absurd l (by dsimp only; omega)) _ | with_reducible refine Chg.trans ?_ (by assumption)))⟩
  · by_cases h0 : a = 0 ∧ b = 0
    · obtain ⟨hA, hB⟩ := h0
      have hI : isz a b = true := by simp [isz, hA, hB]
      have q1 : invE1 a b = 0 := by simp [invE1, ha, hI]
      have q2 : invE2 a b = 0 := by simp [invE2, ha, hI]
      have q3 : invEc a b = 7 := by simp [invEc, ha, hI]
      rw [q1, q2, q3]
      clear q1 q2 q3 hI
      go_enter Try.func15, Try.ntmps15
      go_wp2_with (go_at_call 32; refine (sExtOK_any _ _ _  ).mono ?_; rintro e w1 ⟨rfl, hk⟩; obtain ⟨hc, hf, hz⟩ := kcell hk (w.heap.size + 2) (by first | assumption | simp))
      exact bodyPost_ret (v := .tuple #[.agg #[.int .i64 0, .int .i64 0], .int .i64 7]) (by simp [results, Try.results15, go_sem, *]) rfl ⟨rfl, (by repeat (first | with_reducible exact Chg.refl _ _ | with_reducible refine Chg.alloc ?_ _ | with_reducible refine Chg.drewN ?_ _ | with_reducible refine Chg.drew ?_ | with_reducible refine Chg.setCell ?_ (fun l => absurd l (by dsimp only; omega)) _ | with_reducible refine Chg.trans ?_ (by assumption)))⟩
    · have a0 := fok_lo (eok_a ha)
      have a1 := fok_hi (eok_a ha)
      have b0 := fok_lo (eok_b ha)
      have b1 := fok_hi (eok_b ha)
      have hzz : isz a b = false := by simp [isz]; omega
      have q1 : invE1 a b = Fld.iA a b := by simp [invE1, ha, hzz]
      have q2 : invE2 a b = Fld.iB a b := by simp [invE2, ha, hzz]
      have q3 : invEc a b = 0 := by simp [invEc, ha, hzz]
      rw [q1, q2, q3]
      clear q1 q2 q3 hzz
      by_cases hA : a = 0
      · have hB : ¬ b = 0 := fun h => h0 ⟨hA, h⟩
        clear h0
        subst hA
        go_enter Try.func15, Try.ntmps15
        go_wp2_with (first | (go_at_call 32; refine (sExtOK_any _ _ _  ).mono ?_; rintro e w1 ⟨rfl, hk⟩; obtain ⟨hc, hf, hz⟩ := kcell hk (w.heap.size + 2) (by first | assumption | simp)) | (go_at_call 38; refine (l02Inverse_any _ _ _  (by assumption) (by assumption) (by assumption) (by assumption)).mono ?_; rintro e w1 ⟨rfl, hk⟩; obtain ⟨hc, hf, hz⟩ := kcell hk (w.heap.size + 2) (by first | assumption | simp)))
        exact bodyPost_ret (v := .tuple #[.agg #[.int .i64 (Fld.iA 0 b), .int .i64 (Fld.iB 0 b)], .int .i64 0]) (by simp [results, Try.results15, go_sem, *]) rfl ⟨rfl, (by repeat (first | with_reducible exact Chg.refl _ _ | with_reducible refine Chg.alloc ?_ _ | with_reducible refine Chg.drewN ?_ _ | with_reducible refine Chg.drew ?_ | with_reducible refine Chg.setCell ?_ (fun l => absurd l (by dsimp only; omega)) _ | with_reducible refine Chg.trans ?_ (by assumption)))⟩
      · clear h0
        go_enter Try.func15, Try.ntmps15
        go_wp2_with (first | (go_at_call 32; refine (sExtOK_any _ _ _  ).mono ?_; rintro e w1 ⟨rfl, hk⟩; obtain ⟨hc, hf, hz⟩ := kcell hk (w.heap.size + 2) (by first | assumption | simp)) | (go_at_call 38; refine (l02Inverse_any _ _ _  (by assumption) (by assumption) (by assumption) (by assumption)).mono ?_; rintro e w1 ⟨rfl, hk⟩; obtain ⟨hc, hf, hz⟩ := kcell hk (w.heap.size + 2) (by first | assumption | simp)))
        exact bodyPost_ret (v := .tuple #[.agg #[.int .i64 (Fld.iA a b), .int .i64 (Fld.iB a b)], .int .i64 0]) (by simp [results, Try.results15, go_sem, *]) rfl ⟨rfl, (by repeat (first | with_reducible exact Chg.refl _ _ | with_reducible refine Chg.alloc ?_ _ | with_reducible refine Chg.drewN ?_ _ | with_reducible refine Chg.drew ?_ | with_reducible refine Chg.setCell ?_ (fun l => absurd l (by dsimp only; omega)) _ | with_reducible refine Chg.trans ?_ (by assumption)))⟩

set_option maxHeartbeats 400000 in
theorem toExt_any (a b : Int) (w : World) :
    Calls Try.prog 10 #[.agg #[.int .i64 a, .int .i64 b]] w fun e w' => e = .returned (.agg #[.int .i64 a, .int .i64 b]) ∧ Chg nob w w' := by
  go_enter Try.func10, Try.ntmps10
  go_wp2
  exact bodyPost_ret (v := .agg #[.int .i64 a, .int .i64 b]) (by simp [results, Try.results10, go_sem]) rfl ⟨rfl, (by repeat (first | with_reducible exact Chg.refl _ _ | with_reducible refine Chg.alloc ?_ _ | with_reducible refine Chg.drewN ?_ _ | with_reducible refine Chg.drew ?_ | with_reducible refine Chg.setCell ?_ (fun l => absurd l (by dsimp only; omega)) _ | with_reducible refine Chg.trans ?_ (by assumption)))⟩

set_option maxHeartbeats 400000 in
theorem eqExt_any (a b : Int) (w : World) :
    Calls Try.prog 12 #[.agg #[.int .i64 a, .int .i64 b], .agg #[.int .i64 a, .int .i64 b]] w fun e w' => e = .returned (.bool true) ∧ Chg nob w w' := by
  go_enter Try.func12, Try.ntmps12
  go_wp2
  go_ret
  exact ⟨rfl, (by repeat (first | with_reducible exact Chg.refl _ _ | with_reducible refine Chg.alloc ?_ _ | with_reducible refine Chg.drewN ?_ _ | with_reducible refine Chg.drew ?_ | with_reducible refine Chg.setCell ?_ (fun l => absurd l (by dsimp only; omega)) _ | with_reducible refine Chg.trans ?_ (by assumption)))⟩

end Go.Proofs.Ytimpmiamfpnjaaj
