/- The program's QueryBits, Secure, Select: contracts. No condition but those that each theorem states. -/
import Derived.Test.YtbjhppamolmpeaaParX
import Derived.Test.YtbjhppamolmpeaaParQ
import Derived.Deep.DeepCutAuto
namespace Go.Proofs.Ytbjhppamolmpeaa
open Go.ChangeShapes Go.WideShapes Go.ChangeAt Go.RowKit
set_option linter.unusedVariables false
set_option maxRecDepth 100000
set_option linter.unusedSimpArgs false

set_option maxHeartbeats 2000000 in
theorem bitsOf_any (r q : Nat) (g : Int) (r0 : 1 ≤ r) (r1 : r < 4) (q0 : 1 ≤ q) (q1 : q < 9) (g0 : 0 ≤ g) (g1 : g ≤ 12) (w : World) :
    Calls Try.prog 28 #[.agg #[.int .i64 (r : Int), .int .i64 (q : Int), .int .i64 g]] w fun e w' => e = .returned (.int .i64 ((qbN r q : Int) + g)) ∧ Chg nob w w' := by
  have hq := qb_lt r r1 r0 q q1 q0
  go_enter Try.func28, Try.ntmps28
  go_wp2
  go_region_held3 (fun w' => w'.cell? ⟨w.heap.size, 0, none⟩ = some (.int .i64 (r : Int)) ∧ w'.cell? ⟨w.heap.size, 1, none⟩ = some (.int .i64 (q : Int)) ∧ w'.cell? ⟨w.heap.size, 2, none⟩ = some (.int .i64 g)) (first | go_keep | exact ⟨hk.see (by go_simp), hk.see (by go_simp), hk.see (by go_simp)⟩) (first | (go_at_call 48; refine (queryBits_any r q g r0 r1 q0 q1 _).mono ?_; rintro e w1 ⟨rfl, hk⟩; obtain ⟨hc, hf, hz⟩ := kcell hk (w.heap.size + 1) (by first | assumption | simp)))
  go_wp2
  go_ret
  exact ⟨ret_int (by first | omega | (rw [IntKind.wrap_i64]; omega)), (by repeat (first | with_reducible exact Chg.refl _ _ | with_reducible refine Chg.alloc ?_ _ | with_reducible refine Chg.drewN ?_ _ | with_reducible refine Chg.drew1 ?_ | with_reducible refine Chg.setCell ?_ (fun l => absurd l (by dsimp only; omega)) _ | with_reducible refine Chg.trans ?_ (by assumption)))⟩

set_option maxHeartbeats 1000000 in
theorem isBits_any (b : Int) (w : World) :
    Calls Try.prog 30 #[.int .i64 b] w fun e w' => e = .returned (.bool (btB b)) ∧ w' = w := by
  by_cases h1 : 0 ≤ b
  · by_cases h2 : b ≤ 16
    · have H := hik (show btB b = true from decide_eq_true ⟨h1, h2⟩)
      go_enter Try.func30, Try.ntmps30
      go_wp2
      go_ret
      exact ⟨ret_bool H.out.symm, rfl⟩
    · have H := hik (show btB b = false from decide_eq_false (fun x => h2 x.2))
      go_enter Try.func30, Try.ntmps30
      go_wp2
      go_ret
      exact ⟨ret_bool H.out.symm, rfl⟩
  · have H := hik (show btB b = false from decide_eq_false (fun x => h1 x.1))
    go_enter Try.func30, Try.ntmps30
    go_wp2
    go_ret
    exact ⟨ret_bool H.out.symm, rfl⟩

set_option maxHeartbeats 2000000 in
theorem queryBitsX_any (r q g : Int) (w : World) :
    Calls Try.prog 11 #[.agg #[.int .i64 r, .int .i64 q, .int .i64 g]] w fun e w' => e = .returned (.tuple #[.int .i64 (qvV r q g), .int .i64 (qvC r q g)]) ∧ Chg nob w w' := by
  cases h1 : stb r q g
  · have H1 := hik (show qvV r q g = 0 by simp [qvV, h1])
    have H2 := hik (show qvC r q g = 1 by simp [qvC, h1])
    go_enter Try.func11, Try.ntmps11
    go_wp2_with (go_at_call 27; refine (settingOK_any _ _ _ _).mono ?_; rintro e w1 ⟨rfl, k1⟩; have K1 := hik k1; clear k1)
    go_ret2
    exact ⟨ret_two H1.out.symm H2.out.symm, ((Chg.refl _ _).alloc _).trans K1.out⟩
  · have H2 := hik (show qvC r q g = 0 by simp [qvC, h1])
    obtain ⟨⟨r0, r1⟩, ⟨q0, q1⟩, g0, g1⟩ := stb_parts h1
    have H1 := hik (show qvV r q g = (qbN r.toNat q.toNat : Int) + g by simp [qvV, h1])
    obtain ⟨r, rfl⟩ : ∃ n : Nat, r = n := ⟨r.toNat, by omega⟩
    obtain ⟨q, rfl⟩ : ∃ n : Nat, q = n := ⟨q.toNat, by omega⟩
    rw [Int.toNat_natCast, Int.toNat_natCast] at H1
    have h1 := hik h1
    go_enter Try.func11, Try.ntmps11
    go_wp2_with (first | (go_at_call 27; refine (settingOK_any _ _ _ _).mono ?_; rw [h1.out]; rintro e w1 ⟨rfl, k1⟩; have K1 := hik k1; obtain ⟨c1, f1, z1⟩ := kcell k1 (w.heap.size + 1) (by simp); clear k1) | (go_at_call 28; refine (bitsOf_any r q g (by omega) (by omega) (by omega) (by omega) g0 g1 _).mono ?_; rintro e w2 ⟨rfl, k2⟩; have K2 := hik k2; clear k2))
    go_ret2
    exact ⟨ret_two H1.out.symm H2.out.symm, (((Chg.refl _ _).alloc _).trans K1.out).trans K2.out⟩

set_option maxHeartbeats 2000000 in
theorem secureX_any (r q g b : Int) (w : World) :
    Calls Try.prog 13 #[.agg #[.int .i64 r, .int .i64 q, .int .i64 g], .int .i64 b] w fun e w' => e = .returned (.tuple #[.bool (seV r q g b), .int .i64 (seC r q g b)]) ∧ Chg nob w w' := by
  cases h1 : stb r q g
  · have H1 := hik (show seV r q g b = false by simp [seV, h1])
    have H2 := hik (show seC r q g b = 1 by simp [seC, h1])
    go_enter Try.func13, Try.ntmps13
    go_wp2_with (go_at_call 27; refine (settingOK_any _ _ _ _).mono ?_; rintro e w1 ⟨rfl, k1⟩; have K1 := hik k1; clear k1)
    go_ret2
    exact ⟨by rw [H1.out, H2.out]; rfl, ((Chg.refl _ _).alloc _).trans K1.out⟩
  · cases h2 : btB b
    · have H1 := hik (show seV r q g b = false by simp [seV, h1, h2])
      have H2 := hik (show seC r q g b = 4 by simp [seC, h1, h2])
      go_enter Try.func13, Try.ntmps13
      go_wp2_with (first | (go_at_call 27; refine (settingOK_any _ _ _ _).mono ?_; rintro e w1 ⟨rfl, k1⟩; have K1 := hik k1; clear k1) | (go_at_call 30; refine (isBits_any _ _).mono ?_; rintro e w2 ⟨rfl, hw⟩; have hw := hw.symm; subst hw))
      go_ret2
      exact ⟨by rw [H1.out, H2.out]; rfl, ((Chg.refl _ _).alloc _).trans K1.out⟩
    · have H2 := hik (show seC r q g b = 0 by simp [seC, h1, h2])
      have H1 := hik (show seV r q g b = decide (b ≤ (qbN r.toNat q.toNat : Int) + g) by simp [seV, h1, h2])
      obtain ⟨⟨r0, r1⟩, ⟨q0, q1⟩, g0, g1⟩ := stb_parts h1
      obtain ⟨r, rfl⟩ : ∃ n : Nat, r = n := ⟨r.toNat, by omega⟩
      obtain ⟨q, rfl⟩ : ∃ n : Nat, q = n := ⟨q.toNat, by omega⟩
      rw [Int.toNat_natCast, Int.toNat_natCast] at H1
      have h1 := hik h1
      have h2 := hik h2
      go_enter Try.func13, Try.ntmps13
      go_wp2_with (first | (go_at_call 27; refine (settingOK_any _ _ _ _).mono ?_; rw [h1.out]; rintro e w1 ⟨rfl, k1⟩; have K1 := hik k1; obtain ⟨c1, f1, z1⟩ := kcell k1 (w.heap.size + 1) (by simp); clear k1) | (go_at_call 30; refine (isBits_any _ _).mono ?_; rw [h2.out]; rintro e w2 ⟨rfl, hw⟩; have hw := hw.symm; subst hw) | (go_at_call 28; refine (bitsOf_any r q g (by omega) (by omega) (by omega) (by omega) g0 g1 _).mono ?_; rintro e w2 ⟨rfl, k2⟩; have K2 := hik k2; clear k2))
      go_ret2
      exact ⟨by rw [H1.out, H2.out]; rfl, (((Chg.refl _ _).alloc _).trans K1.out).trans K2.out⟩

set_option maxHeartbeats 2000000 in
theorem slClo_any (r q : Nat) (g b : Int) (r0 : 1 ≤ r) (r1 : r < 4) (q0 : 1 ≤ q) (q1 : q < 9) (g0 : 0 ≤ g) (g1 : g ≤ 12) (b1 b2 b3 : Nat) (w : World) (h1 : w.cell? ⟨b1, 0, none⟩ = some (.int .i64 (r : Int))) (h2 : w.cell? ⟨b2, 0, none⟩ = some (.int .i64 g)) (h3 : w.cell? ⟨b3, 0, none⟩ = some (.int .i64 b)) :
    Calls Try.prog 32 #[.int .i64 (q : Int), .pointer (some ⟨b1, 0, none⟩), .pointer (some ⟨b2, 0, none⟩), .pointer (some ⟨b3, 0, none⟩)] w fun e w' => e = .returned (.bool (decide (b ≤ (qbN r q : Int) + g))) ∧ Chg nob w w' := by
  go_enter Try.func32, Try.ntmps32
  go_wp2
  go_region_held3 (fun w' => w'.cell? ⟨b1, 0, none⟩ = some (.int .i64 (r : Int)) ∧ w'.cell? ⟨b2, 0, none⟩ = some (.int .i64 g) ∧ w'.cell? ⟨b3, 0, none⟩ = some (.int .i64 b)) (first | exact ⟨h1, h2, h3⟩ | exact ⟨hk.see h1, hk.see h2, hk.see h3⟩) (first | (go_at_call 28; refine (bitsOf_any r q g r0 r1 q0 q1 g0 g1 _).mono ?_; rintro e w1 ⟨rfl, hk⟩))
  go_wp2
  go_ret
  exact ⟨rfl, by exact ((Chg.refl nob w).drew1).trans hk⟩

set_option maxHeartbeats 2000000 in
theorem leastI_any (r : Nat) (g b : Int) (lo : Int) (r0 : 1 ≤ r) (r1 : r < 4) (g0 : 0 ≤ g) (g1 : g ≤ 12) (hl0 : 1 ≤ lo) (K : Nat) (hlK : lo ≤ (K : Int)) (hK9 : K ≤ 9) (HK : Hid (∀ q, q < 9 → 1 ≤ q → decide (b ≤ (qbN r q : Int) + g) = decide (K ≤ q))) (b1 b2 b3 : Nat) (w : World) (h1 : w.cell? ⟨b1, 0, none⟩ = some (.int .i64 (r : Int))) (h2 : w.cell? ⟨b2, 0, none⟩ = some (.int .i64 g)) (h3 : w.cell? ⟨b3, 0, none⟩ = some (.int .i64 b)) :
    Calls Try.prog 31 #[.int .i64 lo, .int .i64 9, .func (.func 32) #[] #[.pointer (some ⟨b1, 0, none⟩), .pointer (some ⟨b2, 0, none⟩), .pointer (some ⟨b3, 0, none⟩)]] w fun e w' => e = .returned (.int .i64 (K : Int)) ∧ Chg nob w w' := by
  obtain ⟨lo, rfl⟩ : ∃ n : Nat, lo = (n : Int) := ⟨lo.toNat, by omega⟩
  have HC := hik (fun (q : Nat) (q0 : 1 ≤ q) (q1 : q < 9) (W : World) (k : Chg nob w W) => slClo_any r q g b r0 r1 q0 q1 g0 g1 b1 b2 b3 W (k.see h1) (k.see h2) (k.see h3))
  clear h1 h2 h3
  go_enter Try.func31, Try.ntmps31
  go_wp2
  go_loopw [0, 1] (fun lo' hi W => ∃ l h : Nat, lo' = .int .i64 (l : Int) ∧ hi = .int .i64 (h : Int) ∧ 1 ≤ l ∧ l ≤ K ∧ K ≤ h ∧ h ≤ 9 ∧ Hid (Chg nob w W)) (fun lo' hi _ => (intOf hi).toNat - (intOf lo').toNat)
  case atStart => exact ⟨lo, 9, rfl, rfl, by omega, by omega, by omega, by omega, hik (Chg.refl _ _)⟩
  case round =>
    obtain ⟨l, h, rfl, rfl, hl1, hl, hh, hq2, HG⟩ := hrel
    rename World => wi
    by_cases hlt : (l : Int) < (h : Int)
    · go_wp2_with fail
      obtain ⟨m, hm⟩ : ∃ m : Nat, (l : Int) + ((h : Int) - (l : Int)) / 2 = (m : Int) := ⟨l + (h - l) / 2, by omega⟩
      rw [hm]
      refine (HC.out m (by omega) (by omega) _ HG.out).mono ?_
      rw [HK.out m (by omega) (by omega)]
      rintro e w2 ⟨rfl, k2⟩
      have H2 := hik (HG.out.trans k2)
      clear k2
      by_cases hd : K ≤ m
      · rw [decide_eq_true hd]
        go_wp2
        go_roundw
        case rel => exact ⟨l, m, rfl, rfl, by omega, by omega, by omega, by omega, H2⟩
        case measure => simp [intOf]; omega
      · rw [decide_eq_false hd]
        go_wp2
        go_roundw
        case rel => exact ⟨m + 1, h, by go_num, rfl, by omega, by omega, by omega, by omega, H2⟩
        case measure => simp [intOf]; omega
    · obtain rfl : l = K := by omega
      go_wp2
      go_ret
      exact ⟨rfl, HG.out⟩

set_option maxHeartbeats 4000000 in
theorem selectX_any (b r g : Int) (w : World) :
    Calls Try.prog 15 #[.int .i64 b, .int .i64 r, .int .i64 g] w fun e w' => SlAns b r g e ∧ Chg nob w w' := by
  have K0 := hik ((((((Chg.refl nob w).alloc (.cells #[.int .i64 b] 3)).alloc (.cells #[.int .i64 r] 3)).alloc (.cells #[.int .i64 g] 3)).alloc (.cells #[.int .i64 0, .int .i64 0, .int .i64 0] 26)).alloc (.cells #[.int .i64 r, .int .i64 1, .int .i64 g] 26))
  have RB := hik (rowIs_keep (rowN_new w 1 #[.int .i64 b] 3 rfl) ((((((Chg.refl nob _).alloc (.cells #[.int .i64 r] 3)).alloc (.cells #[.int .i64 g] 3)).alloc (.cells #[.int .i64 0, .int .i64 0, .int .i64 0] 26)).alloc (.cells #[.int .i64 r, .int .i64 1, .int .i64 g] 26))))
  have RR := hik (rowIs_keep (rowN_new (w.alloc (.cells #[.int .i64 b] 3)) 1 #[.int .i64 r] 3 rfl) (((((Chg.refl nob _).alloc (.cells #[.int .i64 g] 3)).alloc (.cells #[.int .i64 0, .int .i64 0, .int .i64 0] 26)).alloc (.cells #[.int .i64 r, .int .i64 1, .int .i64 g] 26))))
  have RG := hik (rowIs_keep (rowN_new ((w.alloc (.cells #[.int .i64 b] 3)).alloc (.cells #[.int .i64 r] 3)) 1 #[.int .i64 g] 3 rfl) (((Chg.refl nob _).alloc (.cells #[.int .i64 0, .int .i64 0, .int .i64 0] 26)).alloc (.cells #[.int .i64 r, .int .i64 1, .int .i64 g] 26)))
  have RZ := hik (rowIs_keep (rowN_new (((w.alloc (.cells #[.int .i64 b] 3)).alloc (.cells #[.int .i64 r] 3)).alloc (.cells #[.int .i64 g] 3)) 3 #[.int .i64 0, .int .i64 0, .int .i64 0] 26 rfl) ((Chg.refl nob _).alloc (.cells #[.int .i64 r, .int .i64 1, .int .i64 g] 26)))
  have RT := hik (rowN_new ((((w.alloc (.cells #[.int .i64 b] 3)).alloc (.cells #[.int .i64 r] 3)).alloc (.cells #[.int .i64 g] 3)).alloc (.cells #[.int .i64 0, .int .i64 0, .int .i64 0] 26)) 3 #[.int .i64 r, .int .i64 1, .int .i64 g] 26 rfl)
  simp only [asz] at RR RG RZ RT
  go_enter Try.func15, Try.ntmps15
  go_upto_region 2 with fail
  generalize hW : ((((w.alloc (.cells #[.int .i64 b] 3)).alloc (.cells #[.int .i64 r] 3)).alloc (.cells #[.int .i64 g] 3)).alloc (.cells #[.int .i64 0, .int .i64 0, .int .i64 0] 26)).alloc (.cells #[.int .i64 r, .int .i64 1, .int .i64 g] 26) = W0 at K0 RB RR RG RZ RT ⊢
  clear hW
  have x0 : W0.cell? ⟨w.heap.size, 0, none⟩ = some (.int .i64 b) := RB.out.cell (i := 0) (by omega)
  have t0 : W0.cell? ⟨w.heap.size + 1 + 1 + 1 + 1, 0, none⟩ = some (.int .i64 r) := RT.out.cell (i := 0) (by omega)
  have t1 : W0.cell? ⟨w.heap.size + 1 + 1 + 1 + 1, 1, none⟩ = some (.int .i64 1) := RT.out.cell (i := 1) (by omega)
  have t2 : W0.cell? ⟨w.heap.size + 1 + 1 + 1 + 1, 2, none⟩ = some (.int .i64 g) := RT.out.cell (i := 2) (by omega)
  have z0 : W0.cell? ⟨w.heap.size + 1 + 1 + 1, 0, none⟩ = some (.int .i64 0) := RZ.out.cell (i := 0) (by omega)
  have z1 : W0.cell? ⟨w.heap.size + 1 + 1 + 1, 1, none⟩ = some (.int .i64 0) := RZ.out.cell (i := 1) (by omega)
  have z2 : W0.cell? ⟨w.heap.size + 1 + 1 + 1, 2, none⟩ = some (.int .i64 0) := RZ.out.cell (i := 2) (by omega)
  have fz0 := RZ.out.frozen 0
  have fz1 := RZ.out.frozen 1
  have fz2 := RZ.out.frozen 2
  cases h1 : btB b
  · have HC := hik (show slC b r g = 4 by simp [slC, slB, h1])
    have h1 := hik h1
    go_wp2_with (go_at_call 30; refine (isBits_any _ _).mono ?_; rw [h1.out]; rintro e w2 ⟨rfl, hw⟩; have hw := hw.symm; subst hw)
    refine bodyPost_ret (v := .tuple #[.agg #[.int .i64 0, .int .i64 0, .int .i64 0], .int .i64 4]) ?_ rfl ⟨slA_no HC.out (by omega) rfl, (((K0.out.setCell (p := ⟨w.heap.size + 1 + 1 + 1, 0, none⟩) (fun l => absurd (show w.heap.size + 1 + 1 + 1 < w.heap.size from l) (by omega)) _).setCell (p := ⟨w.heap.size + 1 + 1 + 1, 1, none⟩) (fun l => absurd (show w.heap.size + 1 + 1 + 1 < w.heap.size from l) (by omega)) _).setCell (p := ⟨w.heap.size + 1 + 1 + 1, 2, none⟩) (fun l => absurd (show w.heap.size + 1 + 1 + 1 < w.heap.size from l) (by omega)) _)⟩
    simp [results, Try.results15, go_sem, *]
  · cases h2 : stb r 1 g
    · have HC := hik (show slC b r g = 4 by simp [slC, slB, h1, h2])
      have h1 := hik h1
      have h2 := hik h2
      go_wp2_with (first | (go_at_call 30; refine (isBits_any _ _).mono ?_; rw [h1.out]; rintro e w2 ⟨rfl, hw⟩; have hw := hw.symm; subst hw) | (go_at_call 27; refine (settingOK_any _ _ _ _).mono ?_; rw [h2.out]; rintro e w1 ⟨rfl, k1⟩; have K1 := hik (K0.out.trans k1); replace z0 := k1.see z0; replace z1 := k1.see z1; replace z2 := k1.see z2; have RZ1 := hik (rowIs_keep RZ.out k1); replace fz0 := RZ1.out.frozen 0; replace fz1 := RZ1.out.frozen 1; replace fz2 := RZ1.out.frozen 2; clear k1 t0 t1 t2 x0))
      refine bodyPost_ret (v := .tuple #[.agg #[.int .i64 0, .int .i64 0, .int .i64 0], .int .i64 4]) ?_ rfl ⟨slA_no HC.out (by omega) rfl, (((K1.out.setCell (p := ⟨w.heap.size + 1 + 1 + 1, 0, none⟩) (fun l => absurd (show w.heap.size + 1 + 1 + 1 < w.heap.size from l) (by omega)) _).setCell (p := ⟨w.heap.size + 1 + 1 + 1, 1, none⟩) (fun l => absurd (show w.heap.size + 1 + 1 + 1 < w.heap.size from l) (by omega)) _).setCell (p := ⟨w.heap.size + 1 + 1 + 1, 2, none⟩) (fun l => absurd (show w.heap.size + 1 + 1 + 1 < w.heap.size from l) (by omega)) _)⟩
      simp [results, Try.results15, go_sem, *]
    · obtain ⟨⟨r0, r1⟩, _, g0, g1⟩ := stb_parts h2
      obtain ⟨b0, b1⟩ := of_decide_eq_true h1
      have HC := hik (show slC b r g = if slQ b r g ≤ 8 then 0 else 16 by simp [slC, slB, h1, h2])
      obtain ⟨r, rfl⟩ : ∃ n : Nat, r = n := ⟨r.toNat, by omega⟩
      obtain ⟨L0, L1⟩ := sl_low r (by omega) (by omega) b g b1 g0
      have HT := hik (sl_k r (by omega) (by omega) b g b1 g0)
      have h1 := hik h1
      have h2 := hik h2
      obtain ⟨K, hK⟩ : ∃ K, K = slQ b r g := ⟨_, rfl⟩
      have HK := hik hK
      rw [← hK] at HC HT L0 L1
      clear hK
      obtain ⟨lo, hlo⟩ : ∃ lo : Nat, lo = min (b - g).toNat 8 := ⟨_, rfl⟩
      rw [← hlo] at L0
      go_upto_region 4 with (first | (go_at_call 30; refine (isBits_any _ _).mono ?_; rw [h1.out]; rintro e w2 ⟨rfl, hw⟩; have hw := hw.symm; subst hw) | (go_at_call 27; refine (settingOK_any _ _ _ _).mono ?_; rw [h2.out]; rintro e W1 ⟨rfl, k1⟩; have K1 := hik (K0.out.trans k1); have kk1 := hik k1; clear k1 t0 t1 t2 x0 z0 z1 z2 fz0 fz1 fz2))
      replace RB := hik (rowIs_keep RB.out kk1.out)
      replace RR := hik (rowIs_keep RR.out kk1.out)
      replace RG := hik (rowIs_keep RG.out kk1.out)
      replace RZ := hik (rowIs_keep RZ.out kk1.out)
      replace RT := hik (rowIs_keep RT.out kk1.out)
      clear kk1
      have x0 : W1.cell? ⟨w.heap.size, 0, none⟩ = some (.int .i64 b) := RB.out.cell (i := 0) (by omega)
      have x1 : W1.cell? ⟨w.heap.size + 1, 0, none⟩ = some (.int .i64 (r : Int)) := RR.out.cell (i := 0) (by omega)
      have x2 : W1.cell? ⟨w.heap.size + 1 + 1, 0, none⟩ = some (.int .i64 g) := RG.out.cell (i := 0) (by omega)
      have t1 : W1.cell? ⟨w.heap.size + 1 + 1 + 1 + 1, 1, none⟩ = some (.int .i64 1) := RT.out.cell (i := 1) (by omega)
      have ft1 := RT.out.frozen 1
      have hsp : b - g < 0 ∨ (0 ≤ b - g ∧ b - g ≤ 8) ∨ 8 < b - g := by omega
      have hfin : ∀ (X : Int), X = (lo : Int) + 1 → Calls Try.prog 31 #[.int .i64 X, .int .i64 9, .func (.func 32) #[] #[.pointer (some ⟨w.heap.size + 1, 0, none⟩), .pointer (some ⟨w.heap.size + 1 + 1, 0, none⟩), .pointer (some ⟨w.heap.size, 0, none⟩)]] W1 fun e w' => e = .returned (.int .i64 (K : Int)) ∧ Chg nob W1 w' := fun X hX => leastI_any r g b X (by omega) (by omega) g0 g1 (by omega) K (by omega) L1 HT _ _ _ W1 x1 x2 x0
      have HFIN := hik hfin
      clear hfin
      rcases hsp with hs | ⟨hs1, hs2⟩ | hs
      all_goals
        go_wp2_with fail
        refine (HFIN.out _ (by omega)).mono ?_
        rintro e W2 ⟨rfl, k2⟩
        have K2 := hik (K1.out.trans k2)
        replace t1 := k2.see t1
        have T2 := hik (rowIs_keep RT.out k2)
        have ft1 := T2.out.frozen 1
        have t0 : W2.cell? ⟨w.heap.size + 1 + 1 + 1 + 1, 0, none⟩ = some (.int .i64 (r : Int)) := T2.out.cell (i := 0) (by omega)
        have t2 : W2.cell? ⟨w.heap.size + 1 + 1 + 1 + 1, 2, none⟩ = some (.int .i64 g) := T2.out.cell (i := 2) (by omega)
        have Z2 := hik (rowIs_keep RZ.out k2)
        have z0 : W2.cell? ⟨w.heap.size + 1 + 1 + 1, 0, none⟩ = some (.int .i64 0) := Z2.out.cell (i := 0) (by omega)
        have z1 : W2.cell? ⟨w.heap.size + 1 + 1 + 1, 1, none⟩ = some (.int .i64 0) := Z2.out.cell (i := 1) (by omega)
        have z2 : W2.cell? ⟨w.heap.size + 1 + 1 + 1, 2, none⟩ = some (.int .i64 0) := Z2.out.cell (i := 2) (by omega)
        have fz0 := Z2.out.frozen 0
        have fz1 := Z2.out.frozen 1
        have fz2 := Z2.out.frozen 2
        clear k2 x0 x1 x2
        by_cases hK8 : (8 : Int) < (K : Int)
        · have HC2 := hik (show slC b (r : Int) g = 16 by rw [HC.out, if_neg (by omega)])
          clear HC HK HT
          go_wp2
          refine bodyPost_ret (v := .tuple #[.agg #[.int .i64 0, .int .i64 0, .int .i64 0], .int .i64 16]) ?_ rfl ⟨slA_no HC2.out (by omega) rfl, ((((K2.out.setCell (p := ⟨w.heap.size + 1 + 1 + 1 + 1, 1, none⟩) (fun l => absurd (show w.heap.size + 1 + 1 + 1 + 1 < w.heap.size from l) (by omega)) _).setCell (p := ⟨w.heap.size + 1 + 1 + 1, 0, none⟩) (fun l => absurd (show w.heap.size + 1 + 1 + 1 < w.heap.size from l) (by omega)) _).setCell (p := ⟨w.heap.size + 1 + 1 + 1, 1, none⟩) (fun l => absurd (show w.heap.size + 1 + 1 + 1 < w.heap.size from l) (by omega)) _).setCell (p := ⟨w.heap.size + 1 + 1 + 1, 2, none⟩) (fun l => absurd (show w.heap.size + 1 + 1 + 1 < w.heap.size from l) (by omega)) _)⟩
          simp [results, Try.results15, go_sem, *]
        · first
          | (exfalso; omega)
          | (
              have HC2 := hik (show slC b (r : Int) g = 0 by rw [HC.out, if_pos (by omega)])
              clear HC HT
              go_wp2
              refine bodyPost_ret (v := .tuple #[.agg #[.int .i64 (r : Int), .int .i64 (K : Int), .int .i64 g], .int .i64 0]) ?_ rfl ⟨slA_yes HC2.out HK.out.symm rfl, ((((K2.out.setCell (p := ⟨w.heap.size + 1 + 1 + 1 + 1, 1, none⟩) (fun l => absurd (show w.heap.size + 1 + 1 + 1 + 1 < w.heap.size from l) (by omega)) _).setCell (p := ⟨w.heap.size + 1 + 1 + 1, 0, none⟩) (fun l => absurd (show w.heap.size + 1 + 1 + 1 < w.heap.size from l) (by omega)) _).setCell (p := ⟨w.heap.size + 1 + 1 + 1, 1, none⟩) (fun l => absurd (show w.heap.size + 1 + 1 + 1 < w.heap.size from l) (by omega)) _).setCell (p := ⟨w.heap.size + 1 + 1 + 1, 2, none⟩) (fun l => absurd (show w.heap.size + 1 + 1 + 1 < w.heap.size from l) (by omega)) _)⟩
              simp [results, Try.results15, go_sem, *])
end Go.Proofs.Ytbjhppamolmpeaa
