/- The model's QueryBits, Secure, Select: contracts. No condition but those that each theorem states. -/
import Derived.Test.YtbjhppamolmpeaaParQ
import Derived.Test.YtbjhppamolmpeaaRowN
import Derived.Deep.RegionHeld3
import Derived.Deep.DeepCutAuto
namespace Go.Proofs.Ytbjhppamolmpeaa
open Go.ChangeShapes Go.WideShapes Go.ChangeAt Go.RowKit
set_option linter.unusedVariables false
set_option maxRecDepth 100000
set_option linter.unusedSimpArgs false

theorem sh64 : ∀ k : Nat, k ≤ 40 → wrap64 (2 ^ k) = ((2 ^ k : Nat) : Int) := by decide +kernel
theorem sh64n : ∀ k : Nat, k ≤ 40 → 2 ^ k ≤ 1099511627776 := fun k h => Nat.le_trans (Nat.pow_le_pow_right (by decide) h) (by decide)
set_option maxHeartbeats 4000000 in
theorem sEnough_any (r q b : Nat) (r0 : 1 ≤ r) (r1 : r < 4) (q0 : 1 ≤ q) (q1 : q < 9) (hb : b < 40) (w : World) :
    Calls Try.prog 46 #[.int .i64 (r : Int), .int .i64 (q : Int), .int .i64 (b : Int)] w fun e w' => e = .returned (.bool (enB r q b)) ∧ w' = w := by
  have HEN := hik (en_ls r r1 r0 q q1 b hb)
  have hr : r = 1 ∨ r = 2 ∨ r = 3 := by omega
  have hqr : (q : Int) * ((r : Int) + 1) = ((q * (r + 1) : Nat) : Int) := by push_cast; rfl
  obtain ⟨s1, _, s3⟩ := qb_size r r1 r0 q q1
  go_enter Try.func46, Try.ntmps46
  go_wp2
  go_loop [7, 8] (fun a i => ∃ k : Nat, k ≤ q ∧ i = .int .i64 (k : Int) ∧ a = .int .i64 (lsN r k : Int)) (fun _ i => q - (intOf i).toNat)
  case atStart => exact ⟨0, Nat.zero_le _, rfl, rfl⟩
  case round =>
    obtain ⟨k, hk, rfl, rfl⟩ := hrel
    by_cases hlt : (k : Int) < (q : Int)
    · obtain ⟨b1, _, _⟩ := qb_size r r1 r0 (k + 1) (by omega)
      obtain ⟨b2, _, _⟩ := qb_size r r1 r0 k (by omega)
      have m1 := lsN_s r k
      have tb : tw r = 2 ^ r := rfl
      rcases hr with rfl | rfl | rfl
      all_goals
        (try simp only [Nat.reducePow] at tb)
        rw [tb] at m1
        have m2 := hik m1
        clear m1
        generalize hx : lsN _ k = x at *
        go_wp2
        go_round
        case rel => exact ⟨k + 1, by omega, by go_num, by rw [m2.out]; go_num⟩
        case measure => simp [intOf]; omega
    · obtain rfl : k = q := by omega
      generalize hM : k * (r + 1) = M at hqr s3 HEN
      clear hM hr
      generalize lsN r k = A at s1 HEN
      by_cases hbm : b ≤ M
      · obtain ⟨d, rfl⟩ : ∃ d, M = b + d := ⟨M - b, by omega⟩
        have hs := sh64 d (by omega)
        have hsn := sh64n d (by omega)
        rw [show b + d - b = d by omega] at HEN
        have hmb : (b : Int) + (d : Int) - (b : Int) = (d : Int) := by omega
        push_cast at hqr
        generalize hP : 2 ^ d = P at hs hsn HEN
        by_cases hA : A ≤ P
        · have H := hik (show decide (b ≤ b + d ∧ A ≤ P) = true from decide_eq_true ⟨by omega, hA⟩)
          go_wp2
          go_ret
          exact ⟨ret_bool (HEN.out.trans H.out).symm, rfl⟩
        · have H := hik (show decide (b ≤ b + d ∧ A ≤ P) = false from decide_eq_false (fun x => hA x.2))
          go_wp2
          go_ret
          exact ⟨ret_bool (HEN.out.trans H.out).symm, rfl⟩
      · have H := hik (show decide (b ≤ M ∧ A ≤ 2 ^ (M - b)) = false from decide_eq_false (fun x => hbm x.1))
        go_wp2
        go_ret
        exact ⟨ret_bool (HEN.out.trans H.out).symm, rfl⟩

set_option maxHeartbeats 2000000 in
theorem sBits_any (r q : Nat) (r0 : 1 ≤ r) (r1 : r < 4) (q0 : 1 ≤ q) (q1 : q < 9) (w : World) :
    Calls Try.prog 26 #[.int .i64 (r : Int), .int .i64 (q : Int)] w fun e w' => e = .returned (.int .i64 (qbN r q : Int)) ∧ w' = w := by
  have HT := hik (fun n (hn : n < 10) => qb_tab r r1 r0 q q1 q0 n hn)
  have hq := qb_lt r r1 r0 q q1 q0
  generalize qbN r q = K at HT hq ⊢
  go_enter Try.func26, Try.ntmps26
  go_wp2
  go_loop [5] (fun n => ∃ k : Nat, k ≤ K ∧ n = .int .i64 (k : Int)) (fun n => K - (intOf n).toNat)
  case atStart => exact ⟨0, Nat.zero_le _, rfl⟩
  case round =>
    obtain ⟨k, hk, rfl⟩ := hrel
    go_wp2_with fail
    refine (sEnough_any r q (k + 1) r0 r1 q0 q1 (by omega) _).mono ?_
    rw [HT.out k (by omega)]
    rintro e w2 ⟨rfl, hw⟩
    have hw := hw.symm
    subst hw
    by_cases hd : k < K
    · rw [decide_eq_true hd]
      go_wp2
      go_round
      case rel => exact ⟨k + 1, by omega, by go_num⟩
      case measure => simp [intOf]; omega
    · rw [decide_eq_false hd]
      obtain rfl : k = K := by omega
      go_wp2
      go_ret
      exact ⟨rfl, rfl⟩

set_option maxHeartbeats 2000000 in
theorem sQueryBits_any (r q g : Int) (w : World) :
    Calls Try.prog 9 #[.agg #[.int .i64 r, .int .i64 q, .int .i64 g]] w fun e w' => e = .returned (.tuple #[.int .i64 (qvV r q g), .int .i64 (qvC r q g)]) ∧ Chg nob w w' := by
  cases h1 : stb r q g
  · have H1 := hik (show qvV r q g = 0 by simp [qvV, h1])
    have H2 := hik (show qvC r q g = 1 by simp [qvC, h1])
    go_enter Try.func9, Try.ntmps9
    go_wp2_with (go_at_call 25; refine (sSettingOK_any _ _ _ _).mono ?_; rintro e w1 ⟨rfl, k1⟩; have K1 := hik k1; clear k1)
    go_ret2
    exact ⟨ret_two H1.out.symm H2.out.symm, ((Chg.refl _ _).alloc _).trans K1.out⟩
  · have H2 := hik (show qvC r q g = 0 by simp [qvC, h1])
    obtain ⟨⟨r0, r1⟩, ⟨q0, q1⟩, g0, g1⟩ := stb_parts h1
    have H1 := hik (show qvV r q g = (qbN r.toNat q.toNat : Int) + g by simp [qvV, h1])
    obtain ⟨r, rfl⟩ : ∃ n : Nat, r = n := ⟨r.toNat, by omega⟩
    obtain ⟨q, rfl⟩ : ∃ n : Nat, q = n := ⟨q.toNat, by omega⟩
    rw [Int.toNat_natCast, Int.toNat_natCast] at H1
    have hq := qb_lt r (by omega) (by omega) q (by omega) (by omega)
    have h1 := hik h1
    go_enter Try.func9, Try.ntmps9
    go_upto_region 3 with (first | (go_at_call 25; refine (sSettingOK_any _ _ _ _).mono ?_; rw [h1.out]; rintro e w1 ⟨rfl, k1⟩; have K1 := hik k1; obtain ⟨c1, f1, z1⟩ := kcell k1 (w.heap.size + 1) (by simp); clear k1))
    have x0 : w1.cell? ⟨w.heap.size, 0, none⟩ = some (.int .i64 (r : Int)) := K1.out.look (by go_simp)
    have x1 : w1.cell? ⟨w.heap.size, 1, none⟩ = some (.int .i64 (q : Int)) := K1.out.look (by go_simp)
    have x2 : w1.cell? ⟨w.heap.size, 2, none⟩ = some (.int .i64 g) := K1.out.look (by go_simp)
    clear c1 f1 z1
    go_region_held3 (fun w' => w'.cell? ⟨w.heap.size, 0, none⟩ = some (.int .i64 (r : Int)) ∧ w'.cell? ⟨w.heap.size, 1, none⟩ = some (.int .i64 (q : Int)) ∧ w'.cell? ⟨w.heap.size, 2, none⟩ = some (.int .i64 g)) (first | exact ⟨x0, x1, x2⟩) (first | (go_at_call 26; refine (sBits_any r q (by omega) (by omega) (by omega) (by omega) _).mono ?_; rintro e w2 ⟨rfl, rfl⟩))
    go_wp2
    go_ret2
    exact ⟨ret_two (by rw [H1.out]; first | rfl | omega | (rw [IntKind.wrap_i64]; omega)) H2.out.symm, (((Chg.refl _ _).alloc _).trans K1.out).drew1⟩

set_option maxHeartbeats 2000000 in
theorem sSecure_any (r q g b : Int) (w : World) :
    Calls Try.prog 12 #[.agg #[.int .i64 r, .int .i64 q, .int .i64 g], .int .i64 b] w fun e w' => e = .returned (.tuple #[.bool (seV r q g b), .int .i64 (seC r q g b)]) ∧ Chg nob w w' := by
  cases h1 : stb r q g
  · have H1 := hik (show seV r q g b = false by simp [seV, h1])
    have H2 := hik (show seC r q g b = 1 by simp [seC, h1])
    go_enter Try.func12, Try.ntmps12
    go_wp2_with (go_at_call 25; refine (sSettingOK_any _ _ _ _).mono ?_; rintro e w1 ⟨rfl, k1⟩; have K1 := hik k1; clear k1)
    go_ret2
    exact ⟨by rw [H1.out, H2.out]; rfl, ((Chg.refl _ _).alloc _).trans K1.out⟩
  · cases h2 : inW b 0 16
    · have h2' : btB b = false := h2
      have H1 := hik (show seV r q g b = false by simp [seV, h1, h2'])
      have H2 := hik (show seC r q g b = 4 by simp [seC, h1, h2'])
      clear h2'
      go_enter Try.func12, Try.ntmps12
      go_wp2_with (first | (go_at_call 25; refine (sSettingOK_any _ _ _ _).mono ?_; rintro e w1 ⟨rfl, k1⟩; have K1 := hik k1; clear k1) | (go_at_call 29; refine (l01In_any _ _ _ _).mono ?_; rintro e w2 ⟨rfl, hw⟩; have hw := hw.symm; subst hw))
      go_ret2
      exact ⟨by rw [H1.out, H2.out]; rfl, ((Chg.refl _ _).alloc _).trans K1.out⟩
    · have h2' : btB b = true := h2
      have H2 := hik (show seC r q g b = 0 by simp [seC, h1, h2'])
      have H1 := hik (show seV r q g b = decide (b ≤ (qbN r.toNat q.toNat : Int) + g) by simp [seV, h1, h2'])
      obtain ⟨⟨r0, r1⟩, ⟨q0, q1⟩, g0, g1⟩ := stb_parts h1
      obtain ⟨b0, b1⟩ := of_decide_eq_true h2'
      obtain ⟨r, rfl⟩ : ∃ n : Nat, r = n := ⟨r.toNat, by omega⟩
      obtain ⟨q, rfl⟩ : ∃ n : Nat, q = n := ⟨q.toNat, by omega⟩
      rw [Int.toNat_natCast, Int.toNat_natCast] at H1
      have hq := qb_lt r (by omega) (by omega) q (by omega) (by omega)
      have hwr : IntKind.i64.wrap ((qbN r q : Int) + g) = (qbN r q : Int) + g := by rw [IntKind.wrap_i64]; omega
      have h1 := hik h1
      have h2 := hik h2
      clear h2'
      go_enter Try.func12, Try.ntmps12
      go_upto_region 5 with (first | (go_at_call 25; refine (sSettingOK_any _ _ _ _).mono ?_; rw [h1.out]; rintro e w1 ⟨rfl, k1⟩; have K1 := hik k1; obtain ⟨c1, f1, z1⟩ := kcell k1 (w.heap.size + 1) (by simp); clear k1) | (go_at_call 29; refine (l01In_any _ _ _ _).mono ?_; rw [h2.out]; rintro e w2 ⟨rfl, hw⟩; have hw := hw.symm; subst hw))
      have x0 : w1.cell? ⟨w.heap.size, 0, none⟩ = some (.int .i64 (r : Int)) := K1.out.look (by go_simp)
      have x1 : w1.cell? ⟨w.heap.size, 1, none⟩ = some (.int .i64 (q : Int)) := K1.out.look (by go_simp)
      have x2 : w1.cell? ⟨w.heap.size, 2, none⟩ = some (.int .i64 g) := K1.out.look (by go_simp)
      clear c1 f1 z1
      go_region_held3 (fun w' => w'.cell? ⟨w.heap.size, 0, none⟩ = some (.int .i64 (r : Int)) ∧ w'.cell? ⟨w.heap.size, 1, none⟩ = some (.int .i64 (q : Int)) ∧ w'.cell? ⟨w.heap.size, 2, none⟩ = some (.int .i64 g)) (first | exact ⟨x0, x1, x2⟩) (first | (go_at_call 26; refine (sBits_any r q (by omega) (by omega) (by omega) (by omega) _).mono ?_; rintro e w2 ⟨rfl, rfl⟩))
      go_wp2
      go_ret2
      exact ⟨by rw [H1.out, H2.out]; first | rfl | (simp only [hwr]; rfl) | (simp [hwr]), (((Chg.refl _ _).alloc _).trans K1.out).drew1⟩

set_option maxHeartbeats 4000000 in
theorem sSelect_any (b r g : Int) (w : World) :
    Calls Try.prog 14 #[.int .i64 b, .int .i64 r, .int .i64 g] w fun e w' => SlAns b r g e ∧ Chg nob w w' := by
  have fz : ∀ j, (w.alloc (.cells #[.int .i64 0, .int .i64 0, .int .i64 0] 26)).frozen? ⟨w.heap.size, j, none⟩ = false := fun j => (rowN_new w 3 #[.int .i64 0, .int .i64 0, .int .i64 0] 26 rfl).frozen j
  have hin : slB b r g = (inW b 0 16 && (inW r 1 3 && inW g 0 12)) := by
    unfold slB btB stb inW
    by_cases q1 : 0 ≤ b ∧ b ≤ 16 <;> by_cases q2 : 1 ≤ r ∧ r ≤ 3 <;> by_cases q3 : 0 ≤ g ∧ g ≤ 12 <;> simp [q1, q2, q3]
  have NO := fun (h : slB b r g = false) => slA_no (b := b) (r := r) (g := g) (c := 4) (by unfold slC; rw [h]; rfl) (by omega) rfl
  cases h1 : inW b 0 16
  · have N := hik (NO (by rw [hin, h1]; rfl))
    clear NO hin
    go_enter Try.func14, Try.ntmps14
    go_wp2_with (go_at_call 29; refine (l01In_any _ _ _ _).mono ?_; rintro e w2 ⟨rfl, hw⟩; have hw := hw.symm; subst hw)
    refine bodyPost_ret (v := .tuple #[.agg #[.int .i64 0, .int .i64 0, .int .i64 0], .int .i64 4]) (by simp [results, Try.results14, go_sem, *]) rfl ⟨N.out, (by repeat (first | with_reducible exact Chg.refl _ _ | with_reducible refine Chg.alloc ?_ _ | with_reducible refine Chg.drewN ?_ _ | with_reducible refine Chg.drew1 ?_ | with_reducible refine Chg.setCell ?_ (fun l => absurd l (by dsimp only; omega)) _ | with_reducible refine Chg.trans ?_ (by assumption)))⟩
  · cases h2 : inW r 1 3
    · have N := hik (NO (by rw [hin, h1, h2]; rfl))
      clear NO hin
      go_enter Try.func14, Try.ntmps14
      go_wp2_with (go_at_call 29; refine (l01In_any _ _ _ _).mono ?_; rintro e w2 ⟨rfl, hw⟩; have hw := hw.symm; subst hw)
      refine bodyPost_ret (v := .tuple #[.agg #[.int .i64 0, .int .i64 0, .int .i64 0], .int .i64 4]) (by simp [results, Try.results14, go_sem, *]) rfl ⟨N.out, (by repeat (first | with_reducible exact Chg.refl _ _ | with_reducible refine Chg.alloc ?_ _ | with_reducible refine Chg.drewN ?_ _ | with_reducible refine Chg.drew1 ?_ | with_reducible refine Chg.setCell ?_ (fun l => absurd l (by dsimp only; omega)) _ | with_reducible refine Chg.trans ?_ (by assumption)))⟩
    · cases h3 : inW g 0 12
      · have N := hik (NO (by rw [hin, h1, h2, h3]; rfl))
        clear NO hin
        go_enter Try.func14, Try.ntmps14
        go_wp2_with (go_at_call 29; refine (l01In_any _ _ _ _).mono ?_; rintro e w2 ⟨rfl, hw⟩; have hw := hw.symm; subst hw)
        refine bodyPost_ret (v := .tuple #[.agg #[.int .i64 0, .int .i64 0, .int .i64 0], .int .i64 4]) (by simp [results, Try.results14, go_sem, *]) rfl ⟨N.out, (by repeat (first | with_reducible exact Chg.refl _ _ | with_reducible refine Chg.alloc ?_ _ | with_reducible refine Chg.drewN ?_ _ | with_reducible refine Chg.drew1 ?_ | with_reducible refine Chg.setCell ?_ (fun l => absurd l (by dsimp only; omega)) _ | with_reducible refine Chg.trans ?_ (by assumption)))⟩
      · have HC := hik (show slC b r g = if slQ b r g ≤ 8 then 0 else 16 by unfold slC; rw [hin, h1, h2, h3]; rfl)
        clear NO hin
        obtain ⟨b0, b1⟩ := of_decide_eq_true h1
        obtain ⟨r0, r1⟩ := of_decide_eq_true h2
        obtain ⟨g0, g1⟩ := of_decide_eq_true h3
        obtain ⟨r, rfl⟩ : ∃ n : Nat, r = n := ⟨r.toNat, by omega⟩
        have HT := hik (sl_k r (by omega) (by omega) b g b1 g0)
        obtain ⟨L0, L1⟩ := sl_low r (by omega) (by omega) b g b1 g0
        obtain ⟨K, hK⟩ : ∃ K, K = slQ b r g := ⟨_, rfl⟩
        have HK := hik hK
        rw [← hK] at HC HT L0 L1
        clear hK
        have L2 : 1 ≤ K := by omega
        clear L0
        have HB := hik (fun (q : Nat) (q0 : 1 ≤ q) (q1 : q < 9) => qb_lt r (by omega) (by omega) q q1 q0)
        have h1 := hik h1
        have h2 := hik h2
        have h3 := hik h3
        have RZ := hik (rowN_new w 3 #[.int .i64 0, .int .i64 0, .int .i64 0] 26 rfl)
        have K0 := hik ((Chg.refl nob w).alloc (.cells #[.int .i64 0, .int .i64 0, .int .i64 0] 26))
        go_enter Try.func14, Try.ntmps14
        go_wp2_with (go_at_call 29; refine (l01In_any _ _ _ _).mono ?_; (first | rw [h1.out] | rw [h2.out] | rw [h3.out]); rintro e w2 ⟨rfl, hw⟩; have hw := hw.symm; subst hw)
        clear fz
        generalize w.alloc (.cells #[.int .i64 0, .int .i64 0, .int .i64 0] 26) = W0 at RZ K0 ⊢
        have z0 : W0.cell? ⟨w.heap.size, 0, none⟩ = some (.int .i64 0) := RZ.out.cell (i := 0) (by omega)
        have z1 : W0.cell? ⟨w.heap.size, 1, none⟩ = some (.int .i64 0) := RZ.out.cell (i := 1) (by omega)
        have z2 : W0.cell? ⟨w.heap.size, 2, none⟩ = some (.int .i64 0) := RZ.out.cell (i := 2) (by omega)
        have fz0 := RZ.out.frozen 0
        have fz1 := RZ.out.frozen 1
        have fz2 := RZ.out.frozen 2
        go_loop [8] (fun i => ∃ k : Nat, 1 ≤ k ∧ k ≤ K ∧ i = .int .i64 (k : Int)) (fun i => 10 - (intOf i).toNat)
        case atStart => exact ⟨1, by omega, L2, rfl⟩
        case round =>
          obtain ⟨k, k1, hk, rfl⟩ := hrel
          by_cases hk8 : (k : Int) ≤ 8
          · go_wp2_with fail
            refine (sBits_any r k (by omega) (by omega) k1 (by omega) _).mono ?_
            rintro e w2 ⟨rfl, hw⟩
            have hw := hw.symm
            subst hw
            have hbk := HB.out k k1 (by omega)
            have htk := HT.out k (by omega) k1
            rw [decide_eq_decide] at htk
            generalize qbN r k = B at hbk htk ⊢
            by_cases hd : K ≤ k
            · have hd2 := htk.2 hd
              obtain rfl : k = K := by omega
              have HC2 := hik (show slC b (r : Int) g = 0 by rw [HC.out, if_pos (by omega)])
              clear HC HT
              go_wp2
              refine bodyPost_ret (v := .tuple #[.agg #[.int .i64 (r : Int), .int .i64 (k : Int), .int .i64 g], .int .i64 0]) (by simp [results, Try.results14, go_sem, *]) rfl ⟨slA_yes HC2.out HK.out.symm rfl, (((K0.out.setCell (p := ⟨w.heap.size, 0, none⟩) (fun l => absurd (show w.heap.size < w.heap.size from l) (by omega)) _).setCell (p := ⟨w.heap.size, 1, none⟩) (fun l => absurd (show w.heap.size < w.heap.size from l) (by omega)) _).setCell (p := ⟨w.heap.size, 2, none⟩) (fun l => absurd (show w.heap.size < w.heap.size from l) (by omega)) _)⟩
            · have hd2 : ¬ (b ≤ (B : Int) + g) := fun q => hd (htk.1 q)
              clear htk
              go_wp2
              go_round
              case rel => exact ⟨k + 1, by omega, by omega, by go_num⟩
              case measure => simp [intOf]; omega
          · obtain rfl : k = 9 := by omega
            have HC2 := hik (show slC b (r : Int) g = 16 by rw [HC.out, if_neg (by omega)])
            go_wp2
            refine bodyPost_ret (v := .tuple #[.agg #[.int .i64 0, .int .i64 0, .int .i64 0], .int .i64 16]) (by simp [results, Try.results14, go_sem, *]) rfl ⟨slA_no HC2.out (by omega) rfl, (((K0.out.setCell (p := ⟨w.heap.size, 0, none⟩) (fun l => absurd (show w.heap.size < w.heap.size from l) (by omega)) _).setCell (p := ⟨w.heap.size, 1, none⟩) (fun l => absurd (show w.heap.size < w.heap.size from l) (by omega)) _).setCell (p := ⟨w.heap.size, 2, none⟩) (fun l => absurd (show w.heap.size < w.heap.size from l) (by omega)) _)⟩
end Go.Proofs.Ytbjhppamolmpeaa
