/- What the greater field's functions answer, and those of its model: contracts. Conditions: those of each theorem. -/
import Derived.Test.YtagjffjdoimhbapWalks
import Derived.Test.YtagjffjdoimhbapExtM
import Derived.Test.YtagjffjdoimhbapPair
import Derived.RegionTactic
import Derived.ChangeAlike
import Derived.BigRegion
import Derived.Deep.QuietTactic
import Derived.BigQuiet
import Derived.Deep.RegionHeld3
namespace Go.Proofs.Ytagjffjdoimhbap
open Go.ChangeShapes Go.WideShapes Go.ChangeAt Go.RowKit
set_option linter.unusedVariables false

/-- Both parts are numbers of the field. -/
def eok (a b : Int) : Bool := fok a && fok b
theorem eok_a {a b : Int} (h : eok a b = true) : fok a = true := by unfold eok at h; cases h1 : fok a <;> simp [h1] at h ⊢
theorem eok_b {a b : Int} (h : eok a b = true) : fok b = true := by unfold eok at h; cases h1 : fok b <;> simp [h1] at h ⊢
theorem eok_mk {a b : Int} (ha : fok a = true) (hb : fok b = true) : eok a b = true := by simp [eok, ha, hb]

set_option maxHeartbeats 400000 in
theorem extOK_any (a b : Int) (w : World) :
    Calls Try.prog 40 #[.agg #[.int .i64 a, .int .i64 b]] w fun e w' => e = .returned (.bool (eok a b)) ∧ Chg nob w w' := by
  cases ha : fok a
  · go_enter Try.func40, Try.ntmps40
    go_wp2_with (go_at_call 65; refine (fieldOK_any _ _).mono ?_; rintro e w' ⟨rfl, rfl⟩)
    go_ret
    exact ⟨ret_bool (by simp [eok, ha]), (Chg.refl _ _).alloc _⟩
  · cases hb : fok b
    all_goals
      go_enter Try.func40, Try.ntmps40
      go_wp2_with (go_at_call 65; refine (fieldOK_any _ _).mono ?_; rintro e w' ⟨rfl, rfl⟩)
      go_ret
      exact ⟨ret_bool (by simp [eok, ha, hb]), (Chg.refl _ _).alloc _⟩

set_option maxHeartbeats 400000 in
theorem plus_any (a b c d : Int) (w : World) (a0 : 0 ≤ a) (a1 : a < 2130706433) (b0 : 0 ≤ b) (b1 : b < 2130706433) (c0 : 0 ≤ c) (c1 : c < 2130706433) (d0 : 0 ≤ d) (d1 : d < 2130706433) :
    Calls Try.prog 52 #[.agg #[.int .i64 a, .int .i64 b], .agg #[.int .i64 c, .int .i64 d]] w fun e w' => e = .returned (.agg #[.int .i64 ((a + c) % 2130706433), .int .i64 ((b + d) % 2130706433)]) ∧ Chg nob w w' := by
  go_enter Try.func52, Try.ntmps52
  go_wp2
  exact bodyPost_ret (v := .agg #[.int .i64 ((a + c) % 2130706433), .int .i64 ((b + d) % 2130706433)]) (by simp [results, Try.results52, go_sem]) rfl ⟨rfl, (by repeat (first | with_reducible exact Chg.refl _ _ | with_reducible refine Chg.alloc ?_ _ | with_reducible refine Chg.drewN ?_ _ | with_reducible refine Chg.drew ?_ | with_reducible refine Chg.setCell ?_ (fun l => absurd l (by dsimp only; omega)) _ | with_reducible refine Chg.trans ?_ (by assumption)))⟩

set_option maxHeartbeats 400000 in
theorem minus_any (a b c d : Int) (w : World) (a0 : 0 ≤ a) (a1 : a < 2130706433) (b0 : 0 ≤ b) (b1 : b < 2130706433) (c0 : 0 ≤ c) (c1 : c < 2130706433) (d0 : 0 ≤ d) (d1 : d < 2130706433) :
    Calls Try.prog 61 #[.agg #[.int .i64 a, .int .i64 b], .agg #[.int .i64 c, .int .i64 d]] w fun e w' => e = .returned (.agg #[.int .i64 ((a + 2130706433 - c) % 2130706433), .int .i64 ((b + 2130706433 - d) % 2130706433)]) ∧ Chg nob w w' := by
  go_enter Try.func61, Try.ntmps61
  go_wp2
  exact bodyPost_ret (v := .agg #[.int .i64 ((a + 2130706433 - c) % 2130706433), .int .i64 ((b + 2130706433 - d) % 2130706433)]) (by simp [results, Try.results61, go_sem]) rfl ⟨rfl, (by repeat (first | with_reducible exact Chg.refl _ _ | with_reducible refine Chg.alloc ?_ _ | with_reducible refine Chg.drewN ?_ _ | with_reducible refine Chg.drew ?_ | with_reducible refine Chg.setCell ?_ (fun l => absurd l (by dsimp only; omega)) _ | with_reducible refine Chg.trans ?_ (by assumption)))⟩

set_option maxHeartbeats 400000 in
theorem conj_any (a b : Int) (w : World) (a0 : 0 ≤ a) (a1 : a < 2130706433) (b0 : 0 ≤ b) (b1 : b < 2130706433) :
    Calls Try.prog 77 #[.agg #[.int .i64 a, .int .i64 b]] w fun e w' => e = .returned (.agg #[.int .i64 a, .int .i64 (Fld.ng b)]) ∧ Chg nob w w' := by
  go_enter Try.func77, Try.ntmps77
  go_wp2
  exact bodyPost_ret (v := .agg #[.int .i64 a, .int .i64 (Fld.ng b)]) (by simp [results, Try.results77, go_sem, Fld.ng]) rfl ⟨rfl, (by repeat (first | with_reducible exact Chg.refl _ _ | with_reducible refine Chg.alloc ?_ _ | with_reducible refine Chg.drewN ?_ _ | with_reducible refine Chg.drew ?_ | with_reducible refine Chg.setCell ?_ (fun l => absurd l (by dsimp only; omega)) _ | with_reducible refine Chg.trans ?_ (by assumption)))⟩

set_option maxHeartbeats 1000000 in
theorem times_any (a b c d : Int) (w : World) (a0 : 0 ≤ a) (a1 : a < 2130706433) (b0 : 0 ≤ b) (b1 : b < 2130706433) (c0 : 0 ≤ c) (c1 : c < 2130706433) (d0 : 0 ≤ d) (d1 : d < 2130706433) :
    Calls Try.prog 44 #[.agg #[.int .i64 a, .int .i64 b], .agg #[.int .i64 c, .int .i64 d]] w fun e w' => e = .returned (.agg #[.int .i64 (Fld.mA a b c d), .int .i64 (Fld.mB a b c d)]) ∧ Chg nob w w' := by
  have m1 := Fld.mul_bound a c a0 a1 c0 c1
  have m2 := Fld.mul_bound b d b0 b1 d0 d1
  have m3 := Fld.mul_bound a d a0 a1 d0 d1
  have m4 := Fld.mul_bound b c b0 b1 c0 c1
  go_enter Try.func44, Try.ntmps44
  go_wp2
  go_quiet (fail)
  go_wp2
  exact bodyPost_ret (v := .agg #[.int .i64 (Fld.mA a b c d), .int .i64 (Fld.mB a b c d)]) (by simp [results, Try.results44, go_sem, Fld.mA, Fld.mB]) rfl ⟨rfl, (by repeat (first | with_reducible exact Chg.refl _ _ | with_reducible refine Chg.alloc ?_ _ | with_reducible refine Chg.drewN ?_ _ | with_reducible refine Chg.drew ?_ | with_reducible refine Chg.setCell ?_ (fun l => absurd l (by dsimp only; omega)) _ | with_reducible refine Chg.trans ?_ (by assumption)))⟩

theorem field0 (x y : Int) (w : World) : (Instr.field 38 (.agg #[.int .i64 x, .int .i64 y]) 0).run Try.prog w = .ok (.int .i64 x) w := by kernel_rfl

set_option maxHeartbeats 2000000 in
theorem norm_any (a b : Int) (w : World) (a0 : 0 ≤ a) (a1 : a < 2130706433) (b0 : 0 ≤ b) (b1 : b < 2130706433) :
    Calls Try.prog 76 #[.agg #[.int .i64 a, .int .i64 b]] w fun e w' => e = .returned (.int .i64 (Fld.nm a b)) ∧ Chg nob w w' := by
  have hfd := field0
  have n0 := Fld.ng_lo b
  have n1 := Fld.ng_hi b
  go_enter Try.func76, Try.ntmps76
  go_wp2
  go_region_held3 (fun w' => w'.cell? ⟨w.heap.size, 0, none⟩ = some (.int .i64 a) ∧ w'.cell? ⟨w.heap.size, 1, none⟩ = some (.int .i64 b)) (go_keep) (first | (go_at_call 77; refine (conj_any _ _ _ (by assumption) (by assumption) (by assumption) (by assumption)).mono ?_; rintro e w1 ⟨rfl, hk⟩; obtain ⟨hc, hf, hz⟩ := kcell hk (w.heap.size + 1) (by first | assumption | simp)) | (go_at_call 44; refine (times_any _ _ _ _ _ (by assumption) (by assumption) (by assumption) (by assumption) (by assumption) (by assumption) (by assumption) (by assumption)).mono ?_; rintro e w1 ⟨rfl, hk⟩; obtain ⟨hc, hf, hz⟩ := kcell hk (w.heap.size + 1) (by first | assumption | simp)))
  go_wp2
  go_ret
  exact ⟨ret_int (Fld.nm_conj a b), (by repeat (first | with_reducible exact Chg.refl _ _ | with_reducible refine Chg.alloc ?_ _ | with_reducible refine Chg.drewN ?_ _ | with_reducible refine Chg.drew ?_ | with_reducible refine Chg.setCell ?_ (fun l => absurd l (by dsimp only; omega)) _ | with_reducible refine Chg.trans ?_ (by assumption)))⟩

/-- What a power keeps in memory: the element, the result's place, the product. -/
structure PM (w W : World) (t : TypeId) (x1 x2 y1 y2 : Int) : Prop where
  rx : W.rowIs w.heap.size t 2 (pi2 x1 x2)
  rr : W.rowIs (w.heap.size + 1) t 2 (pi2 0 0)
  ry : W.rowIs (w.heap.size + 1 + 1) t 2 (pi2 y1 y2)
  chg : Chg nob w W
  size : w.heap.size + 3 ≤ W.heap.size
theorem PM.keep {w W W' : World} {t : TypeId} {x1 x2 y1 y2 : Int} (h : PM w W t x1 x2 y1 y2) (k : Chg nob W W') : PM w W' t x1 x2 y1 y2 :=
  ⟨rowIs_keep h.rx k, rowIs_keep h.rr k, rowIs_keep h.ry k, h.chg.trans k, Nat.le_trans h.size k.size⟩
theorem PM.setX {w W : World} {t : TypeId} {x1 x2 y1 y2 : Int} (h : PM w W t x1 x2 y1 y2) (u v : Int) : PM w ((W.setCell ⟨w.heap.size, 0, none⟩ (.int .i64 u)).setCell ⟨w.heap.size, 1, none⟩ (.int .i64 v)) t u v y1 y2 :=
  ⟨row2_set h.rx _ _, row2_other h.rr (by omega) _ _, row2_other h.ry (by omega) _ _, chg2_set h.chg _ (fun l => absurd l (by omega)) _ _, by simpa using h.size⟩
theorem PM.setY {w W : World} {t : TypeId} {x1 x2 y1 y2 : Int} (h : PM w W t x1 x2 y1 y2) (u v : Int) : PM w ((W.setCell ⟨w.heap.size + 1 + 1, 0, none⟩ (.int .i64 u)).setCell ⟨w.heap.size + 1 + 1, 1, none⟩ (.int .i64 v)) t x1 x2 u v :=
  ⟨row2_other h.rx (by omega) _ _, row2_other h.rr (by omega) _ _, row2_set h.ry _ _, chg2_set h.chg _ (fun l => absurd l (by omega)) _ _, by simpa using h.size⟩
theorem PM.new (w : World) (t : TypeId) (x1 x2 y1 y2 : Int) : PM w (((w.alloc (.cells #[.int .i64 x1, .int .i64 x2] t)).alloc (.cells #[.int .i64 0, .int .i64 0] t)).alloc (.cells #[.int .i64 y1, .int .i64 y2] t)) t x1 x2 y1 y2 :=
  ⟨((row2_new w _ _ t).alloc _).alloc _, by have h := (row2_new (w.alloc (.cells #[.int .i64 x1, .int .i64 x2] t)) (.int .i64 0) (.int .i64 0) t).alloc (.cells #[.int .i64 y1, .int .i64 y2] t); simpa [pi2] using h,
   by have h := row2_new ((w.alloc (.cells #[.int .i64 x1, .int .i64 x2] t)).alloc (.cells #[.int .i64 0, .int .i64 0] t)) (.int .i64 y1) (.int .i64 y2) t; simpa [pi2] using h, (((Chg.refl _ _).alloc _).alloc _).alloc _, by simp⟩

set_option maxHeartbeats 2000000 in
theorem power_any (a b : Int) (k : Nat) (w : World) (a0 : 0 ≤ a) (a1 : a < 2130706433) (b0 : 0 ≤ b) (b1 : b < 2130706433) (hk : (k : Int) ≤ 9223372036854775807) :
    Calls Try.prog 48 #[.agg #[.int .i64 a, .int .i64 b], .int .i64 k] w fun e w' => e = .returned (.agg #[.int .i64 (Fld.ep (a, b) k).1, .int .i64 (Fld.ep (a, b) k).2]) ∧ Chg nob w w' := by
  go_enter Try.func48, Try.ntmps48
  go_wp2
  go_loopw [1] (fun n W => ∃ (x1 x2 y1 y2 : Int) (m : Nat), m ≤ k ∧ n = .int .i64 m ∧ Hid (Fld.Red (x1, x2)) ∧ Hid (Fld.Red (y1, y2)) ∧ Hid (Fld.mu (y1, y2) (Fld.ep (x1, x2) m) = Fld.ep (a, b) k) ∧ Hid (PM w W 38 x1 x2 y1 y2)) (fun n _ => (intOf n).toNat)
  case atStart => exact ⟨a, b, 1, 0, k, Nat.le_refl _, rfl, hide ⟨a0, a1, b0, b1⟩, hide ⟨by decide, by decide, by decide, by decide⟩, hide (Fld.one_mu (Fld.ep_red _ _)), hide (PM.new w _ _ _ _ _)⟩
  case round =>
    obtain ⟨x1, x2, y1, y2, m, hm, rfl, HX, HY, HE, HP⟩ := hrel
    obtain ⟨x10, x11, x20, x21⟩ := HX.out
    obtain ⟨y10, y11, y20, y21⟩ := HY.out
    dsimp only at x10 x11 x20 x21 y10 y11 y20 y21
    have cx0 := row2_c0 HP.out.rx
    have cx1 := row2_c1 HP.out.rx
    have cy0 := row2_c0 HP.out.ry
    have cy1 := row2_c1 HP.out.ry
    have cr0 := row2_c0 HP.out.rr
    have cr1 := row2_c1 HP.out.rr
    have fx0 := HP.out.rx.frozen 0
    have fx1 := HP.out.rx.frozen 1
    have fy0 := HP.out.ry.frozen 0
    have fy1 := HP.out.ry.frozen 1
    have fr0 := HP.out.rr.frozen 0
    have fr1 := HP.out.rr.frozen 1
    have hz := HP.out.size
    by_cases hz0 : 0 < m
    · have hd : m % 2 = 0 ∨ m % 2 = 1 := by omega
      rcases hd with hd | hd
      · have hdi : (m : Int) % 2 = 0 := by omega
        go_wp2_with fail
        refine (times_any _ _ _ _ _ (by assumption) (by assumption) (by assumption) (by assumption) (by assumption) (by assumption) (by assumption) (by assumption)).mono ?_
        rintro e w1 ⟨rfl, hk1⟩
        obtain ⟨hc1, hf1, hz1⟩ := kcell hk1 (w.heap.size + 3) hz
        go_wp2
        go_roundw
        case rel => exact ⟨_, _, y1, y2, m / 2, by omega, by go_num, hide (Fld.mu_red (x1, x2) (x1, x2)), HY, hide ((Fld.ep_even (y1, y2) (x1, x2) m hd).trans HE.out), hide ((HP.out.keep hk1).setX _ _)⟩
        case measure => simp [intOf]; omega
      · have hdi : (m : Int) % 2 = 1 := by omega
        go_wp2_with fail
        refine (times_any _ _ _ _ _ (by assumption) (by assumption) (by assumption) (by assumption) (by assumption) (by assumption) (by assumption) (by assumption)).mono ?_
        rintro e w1 ⟨rfl, hk1⟩
        obtain ⟨hc1, hf1, hz1⟩ := kcell hk1 (w.heap.size + 3) hz
        go_wp2_with fail
        refine (times_any _ _ _ _ _ (by assumption) (by assumption) (by assumption) (by assumption) (by assumption) (by assumption) (by assumption) (by assumption)).mono ?_
        rintro e w2 ⟨rfl, hk2⟩
        obtain ⟨hc2, hf2, hz2⟩ := kcell hk2 (w.heap.size + 3) (by simpa using hz1)
        go_wp2
        go_roundw
        case rel => exact ⟨_, _, _, _, m / 2, by omega, by go_num, hide (Fld.mu_red (x1, x2) (x1, x2)), hide (Fld.mu_red (y1, y2) (x1, x2)), hide ((Fld.ep_odd (y1, y2) (x1, x2) m hd).trans HE.out), hide ((((HP.out.keep hk1).setY _ _).keep hk2).setX _ _)⟩
        case measure => simp [intOf]; omega
    · have hz1 : m = 0 := by omega
      subst hz1
      have HF : Hid (Fld.ep (a, b) k = (y1, y2)) := hide (HE.out.symm.trans (Fld.mu_one HY.out))
      have HC := hide HP.out.chg
      go_wp2
      exact bodyPost_ret (v := .agg #[.int .i64 y1, .int .i64 y2]) (by simp [results, Try.results48, go_sem, *]) rfl ⟨by rw [HF.out], chg2_set HC.out (w.heap.size + 1) (fun l => absurd l (by omega)) _ _⟩

end Go.Proofs.Ytagjffjdoimhbap
