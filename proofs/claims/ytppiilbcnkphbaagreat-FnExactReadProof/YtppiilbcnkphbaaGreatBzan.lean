/- Several texts in one: What looks at settings answer, the program's and the model's: contracts. No condition but those that each theorem states. · How many bytes an opening has, the program's answer and the model's: contracts. No condition but those that each theorem states. -/
import Derived.Test.YtppiilbcnkphbaaGreatBzaa
import Derived.Test.YtppiilbcnkphbaaGreatBzac
namespace Go.Proofs.YtppiilbcnkphbaaGreat
open Go.ChangeShapes Go.WideShapes Go.ChangeAt Go.RowKit
set_option linter.unusedVariables false
set_option maxRecDepth 100000
set_option linter.unusedSimpArgs false

/-- A setting's rate is in its bounds. -/
def rtB (r : Int) : Bool := decide (1 ≤ r ∧ r ≤ 3)
/-- A setting's numbers are in their bounds. -/
def stb (r q g : Int) : Bool := decide ((1 ≤ r ∧ r ≤ 3) ∧ (1 ≤ q ∧ q ≤ 8) ∧ (0 ≤ g ∧ g ≤ 12))
/-- As many variables as an opening may have. -/
def vrB (v : Int) : Bool := decide (1 ≤ v ∧ v ≤ 6)
theorem stb_parts {r q g : Int} (h : stb r q g = true) : (1 ≤ r ∧ r ≤ 3) ∧ (1 ≤ q ∧ q ≤ 8) ∧ (0 ≤ g ∧ g ≤ 12) := of_decide_eq_true h
theorem vrB_parts {v : Int} (h : vrB v = true) : 1 ≤ v ∧ v ≤ 6 := of_decide_eq_true h

theorem toSetting_any (r q g : Int) (w : World) :
    Calls Tryz.prog 8 #[.agg #[.int .i64 r, .int .i64 q, .int .i64 g]] w fun e w' => e = .returned (.agg #[.int .i64 r, .int .i64 q, .int .i64 g]) ∧ Chg nob w w' := by
  go_enter Tryz.func8, Tryz.ntmps8
  go_wp2
  exact bodyPost_ret (v := .agg #[.int .i64 r, .int .i64 q, .int .i64 g]) (by simp [results, Tryz.results8, go_sem]) rfl ⟨rfl, (((Chg.refl _ _).alloc _).alloc _).alloc _⟩

set_option maxHeartbeats 1000000 in
theorem sSettingOK_any (r q g : Int) (w : World) :
    Calls Tryz.prog 19 #[.agg #[.int .i64 r, .int .i64 q, .int .i64 g]] w fun e w' => e = .returned (.bool (stb r q g)) ∧ Chg nob w w' := by
  cases h1 : inW r 1 3
  · have H := hik (show stb r q g = false from decide_eq_false (fun x => by have y := of_decide_eq_false h1; exact y x.1))
    go_enter Tryz.func19, Tryz.ntmps19
    go_wp2_with (go_at_call 33; refine (l01In_any _ _ _ _).mono ?_; rintro e w' ⟨rfl, rfl⟩)
    go_ret
    exact ⟨ret_bool H.out.symm, (Chg.refl _ _).alloc _⟩
  · cases h2 : inW q 1 8
    · have H := hik (show stb r q g = false from decide_eq_false (fun x => by have y := of_decide_eq_false h2; exact y x.2.1))
      go_enter Tryz.func19, Tryz.ntmps19
      go_wp2_with (go_at_call 33; refine (l01In_any _ _ _ _).mono ?_; rintro e w' ⟨rfl, rfl⟩)
      go_ret
      exact ⟨ret_bool H.out.symm, (Chg.refl _ _).alloc _⟩
    · have H := hik (show stb r q g = inW g 0 12 from by
        have y1 := of_decide_eq_true h1
        have y2 := of_decide_eq_true h2
        unfold stb inW
        rw [decide_eq_decide]
        exact ⟨fun x => x.2.2, fun x => ⟨y1, y2, x⟩⟩)
      go_enter Tryz.func19, Tryz.ntmps19
      go_wp2_with (go_at_call 33; refine (l01In_any _ _ _ _).mono ?_; rintro e w' ⟨rfl, rfl⟩)
      go_ret
      exact ⟨ret_bool H.out.symm, (Chg.refl _ _).alloc _⟩

set_option maxHeartbeats 1000000 in
theorem isOpenRate_any (r : Int) (w : World) :
    Calls Tryz.prog 71 #[.int .i64 r] w fun e w' => e = .returned (.bool (rtB r)) ∧ w' = w := by
  by_cases h1 : 1 ≤ r
  · by_cases h2 : r ≤ 3
    · have H := hik (show rtB r = true from decide_eq_true ⟨h1, h2⟩)
      go_enter Tryz.func71, Tryz.ntmps71
      go_wp2
      go_ret
      exact ⟨ret_bool H.out.symm, rfl⟩
    · have H := hik (show rtB r = false from decide_eq_false (fun x => h2 x.2))
      go_enter Tryz.func71, Tryz.ntmps71
      go_wp2
      go_ret
      exact ⟨ret_bool H.out.symm, rfl⟩
  · have H := hik (show rtB r = false from decide_eq_false (fun x => h1 x.1))
    go_enter Tryz.func71, Tryz.ntmps71
    go_wp2
    go_ret
    exact ⟨ret_bool H.out.symm, rfl⟩

set_option maxHeartbeats 1000000 in
theorem isOpenVars_any (v : Int) (w : World) :
    Calls Tryz.prog 72 #[.int .i64 v] w fun e w' => e = .returned (.bool (vrB v)) ∧ w' = w := by
  by_cases h1 : 1 ≤ v
  · by_cases h2 : v ≤ 6
    · have H := hik (show vrB v = true from decide_eq_true ⟨h1, h2⟩)
      go_enter Tryz.func72, Tryz.ntmps72
      go_wp2
      go_ret
      exact ⟨ret_bool H.out.symm, rfl⟩
    · have H := hik (show vrB v = false from decide_eq_false (fun x => h2 x.2))
      go_enter Tryz.func72, Tryz.ntmps72
      go_wp2
      go_ret
      exact ⟨ret_bool H.out.symm, rfl⟩
  · have H := hik (show vrB v = false from decide_eq_false (fun x => h1 x.1))
    go_enter Tryz.func72, Tryz.ntmps72
    go_wp2
    go_ret
    exact ⟨ret_bool H.out.symm, rfl⟩

set_option maxHeartbeats 2000000 in
theorem settingOK_any (r q g : Int) (w : World) :
    Calls Tryz.prog 42 #[.agg #[.int .i64 r, .int .i64 q, .int .i64 g]] w fun e w' => e = .returned (.bool (stb r q g)) ∧ Chg nob w w' := by
  cases h1 : rtB r
  · have H := hik (show stb r q g = false from decide_eq_false (fun x => by have y := of_decide_eq_false h1; exact y x.1))
    go_enter Tryz.func42, Tryz.ntmps42
    go_wp2_with (go_at_call 71; refine (isOpenRate_any _ _).mono ?_; rintro e w' ⟨rfl, rfl⟩)
    go_ret
    exact ⟨ret_bool H.out.symm, (Chg.refl _ _).alloc _⟩
  · by_cases h2 : 1 ≤ q
    · by_cases h3 : q ≤ 8
      · by_cases h4 : 0 ≤ g
        · by_cases h5 : g ≤ 12
          · have H := hik (show stb r q g = true from decide_eq_true ⟨of_decide_eq_true h1, ⟨h2, h3⟩, h4, h5⟩)
            go_enter Tryz.func42, Tryz.ntmps42
            go_wp2_with (go_at_call 71; refine (isOpenRate_any _ _).mono ?_; rintro e w' ⟨rfl, rfl⟩)
            go_ret
            exact ⟨ret_bool H.out.symm, (Chg.refl _ _).alloc _⟩
          · have H := hik (show stb r q g = false from decide_eq_false (fun x => h5 x.2.2.2))
            go_enter Tryz.func42, Tryz.ntmps42
            go_wp2_with (go_at_call 71; refine (isOpenRate_any _ _).mono ?_; rintro e w' ⟨rfl, rfl⟩)
            go_ret
            exact ⟨ret_bool (by rw [H.out]; exact decide_eq_false (by omega)), (Chg.refl _ _).alloc _⟩
        · have H := hik (show stb r q g = false from decide_eq_false (fun x => h4 x.2.2.1))
          go_enter Tryz.func42, Tryz.ntmps42
          go_wp2_with (go_at_call 71; refine (isOpenRate_any _ _).mono ?_; rintro e w' ⟨rfl, rfl⟩)
          go_ret
          exact ⟨ret_bool H.out.symm, (Chg.refl _ _).alloc _⟩
      · have H := hik (show stb r q g = false from decide_eq_false (fun x => h3 x.2.1.2))
        go_enter Tryz.func42, Tryz.ntmps42
        go_wp2_with (go_at_call 71; refine (isOpenRate_any _ _).mono ?_; rintro e w' ⟨rfl, rfl⟩)
        go_ret
        exact ⟨ret_bool H.out.symm, (Chg.refl _ _).alloc _⟩
    · have H := hik (show stb r q g = false from decide_eq_false (fun x => h2 x.2.1.1))
      go_enter Tryz.func42, Tryz.ntmps42
      go_wp2_with (go_at_call 71; refine (isOpenRate_any _ _).mono ?_; rintro e w' ⟨rfl, rfl⟩)
      go_ret
      exact ⟨ret_bool H.out.symm, (Chg.refl _ _).alloc _⟩

set_option maxHeartbeats 1000000 in
theorem pathLength_any (r q g v k : Int) (w : World) (r0 : 0 ≤ r) (r1 : r ≤ 1000) (v0 : 0 ≤ v) (v1 : v ≤ 1000) (k0 : 0 ≤ k) (k1 : k ≤ 1000) :
    Calls Tryz.prog 73 #[.agg #[.int .i64 r, .int .i64 q, .int .i64 g], .int .i64 v, .int .i64 k] w fun e w' => e = .returned (.int .i64 (v + r - 1 - k)) ∧ w' = w.alloc (.cells #[.int .i64 r, .int .i64 q, .int .i64 g] 45) := by
  go_enter Tryz.func73, Tryz.ntmps73
  go_wp2
  go_ret
  exact ⟨rfl, rfl⟩

end Go.Proofs.YtppiilbcnkphbaaGreat

namespace Go.Proofs.YtppiilbcnkphbaaGreat
open Go.ChangeShapes Go.WideShapes Go.ChangeAt Go.RowKit
set_option linter.unusedVariables false
set_option maxRecDepth 100000
set_option linter.unusedSimpArgs false

/-- Hashes of the first k paths of a query. -/
def hpl (v r : Int) : Nat → Int
  | 0 => 0
  | k + 1 => hpl v r k + (v + r - 1 - (k : Int))
theorem hpl_bd (v r : Int) (hv : 1 ≤ v) (hv2 : v ≤ 6) (hr : 1 ≤ r) (hr2 : r ≤ 3) : ∀ k : Nat, (k : Int) ≤ v → 0 ≤ hpl v r k ∧ hpl v r k ≤ 8 * (k : Int)
  | 0, _ => by simp [hpl]
  | k + 1, h => by
    have := hpl_bd v r hv hv2 hr hr2 k (by omega)
    simp only [hpl]
    omega
/-- How many bytes. -/
def osn (v r q : Int) : Int := 24 * v + 32 * (v - 1) + 12 + q * (16 * v + 32 * hpl v r v.toNat)
/-- OpeningSize's code. -/
def osc (v r q g : Int) : Int := if stb r q g then (if vrB v then 0 else 4) else 1
def osv (v r q g : Int) : Int := if stb r q g && vrB v then osn v r q else 0

set_option maxHeartbeats 2000000 in
theorem openingSize_any (v r q g : Int) (w : World) :
    Calls Tryz.prog 43 #[.int .i64 v, .agg #[.int .i64 r, .int .i64 q, .int .i64 g]] w fun e w' => e = .returned (.tuple #[.int .i64 (osv v r q g), .int .i64 (osc v r q g)]) ∧ Chg nob w w' := by
  cases h1 : stb r q g
  · have H1 := hik (show osv v r q g = 0 by simp [osv, h1])
    have H2 := hik (show osc v r q g = 1 by simp [osc, h1])
    go_enter Tryz.func43, Tryz.ntmps43
    go_wp2_with (go_at_call 42; refine (settingOK_any _ _ _ _).mono ?_; rintro e w1 ⟨rfl, k1⟩; have K1 := hik k1; clear k1)
    go_ret2
    exact ⟨ret_two H1.out.symm H2.out.symm, ((Chg.refl _ _).alloc _).trans K1.out⟩
  · cases h2 : vrB v
    · have H1 := hik (show osv v r q g = 0 by simp [osv, h1, h2])
      have H2 := hik (show osc v r q g = 4 by simp [osc, h1, h2])
      go_enter Tryz.func43, Tryz.ntmps43
      go_wp2_with (first | (go_at_call 42; refine (settingOK_any _ _ _ _).mono ?_; rintro e w1 ⟨rfl, k1⟩; have K1 := hik k1; clear k1) | (go_at_call 72; refine (isOpenVars_any _ _).mono ?_; rintro e w2 ⟨rfl, hw⟩; have hw := hw.symm; subst hw))
      go_ret2
      exact ⟨ret_two H1.out.symm H2.out.symm, ((Chg.refl _ _).alloc _).trans K1.out⟩
    · have H1 := hik (show osv v r q g = osn v r q by simp [osv, h1, h2])
      have H2 := hik (show osc v r q g = 0 by simp [osc, h1, h2])
      have P := stb_parts h1
      obtain ⟨⟨r0, r1⟩, ⟨q0, q1⟩, g0, g1⟩ := P
      obtain ⟨v0, v1⟩ := vrB_parts h2
      go_enter Tryz.func43, Tryz.ntmps43
      go_wp2_with (first | (go_at_call 42; refine (settingOK_any _ _ _ _).mono ?_; rintro e w1 ⟨rfl, k1⟩; have K1 := hik k1; obtain ⟨c1, f1, z1⟩ := kcell k1 (w.heap.size + 1) (by simp); clear k1) | (go_at_call 72; refine (isOpenVars_any _ _).mono ?_; rintro e w2 ⟨rfl, hw⟩; have hw := hw.symm; subst hw))
      have HC := hik (((Chg.refl nob w).alloc (.cells #[.int .i64 r, .int .i64 q, .int .i64 g] 45)).trans K1.out)
      have x0 : w1.cell? ⟨w.heap.size, 0, none⟩ = some (.int .i64 r) := K1.out.look (by go_simp)
      have x1 : w1.cell? ⟨w.heap.size, 1, none⟩ = some (.int .i64 q) := K1.out.look (by go_simp)
      have x2 : w1.cell? ⟨w.heap.size, 2, none⟩ = some (.int .i64 g) := K1.out.look (by go_simp)
      clear c1 f1 z1
      go_loopw [6, 18] (fun s i W => ∃ k : Nat, (k : Int) ≤ v ∧ i = .int .i64 (k : Int) ∧ s = .int .i64 (16 * v + 32 * hpl v r k) ∧ Hid (Chg nob w1 W)) (fun _ i _ => v.toNat - (intOf i).toNat)
      case atStart => exact ⟨0, by omega, rfl, by simp only [hpl]; go_num, hik (Chg.refl _ _)⟩
      case round =>
        obtain ⟨k, hk, rfl, rfl, HG⟩ := hrel
        rename World => wi
        have y0 := HG.out.look x0
        have y1 := HG.out.look x1
        have y2 := HG.out.look x2
        have hb := hpl_bd v r v0 v1 r0 r1 k hk
        by_cases hlt : (k : Int) < v
        · have hs := hik (show 16 * v + 32 * hpl v r (k + 1) = 16 * v + 32 * hpl v r k + (v + r - 1 - (k : Int)) * 32 by simp only [hpl]; omega)
          go_wp2_with (go_at_call 73; refine (pathLength_any _ _ _ _ _ _ (by omega) (by omega) (by omega) (by omega) (by omega) (by omega)).mono ?_; rintro e w2 ⟨rfl, rfl⟩)
          go_roundw
          case rel => exact ⟨k + 1, by omega, by go_num, by rw [hs.out], hik (HG.out.alloc _)⟩
          case measure => simp [intOf]; omega
        · have hkv : k = v.toNat := by omega
          have HF := hik (show osn v r q = 24 * v + 32 * (v - 1) + 12 + q * (16 * v + 32 * hpl v r k) by rw [hkv]; rfl)
          obtain ⟨X, hX⟩ : ∃ X, X = 16 * v + 32 * hpl v r k := ⟨_, rfl⟩
          have hX0 : 0 ≤ X := by omega
          have hX1 : X ≤ 2000 := by omega
          rw [← hX] at HF ⊢
          have hq : 0 ≤ q * X ∧ q * X ≤ 16000 := ⟨Int.mul_nonneg (by omega) hX0, Int.le_trans (Int.mul_le_mul q1 hX1 hX0 (by omega)) (by omega)⟩
          obtain ⟨hq0, hq1⟩ := hq
          clear hX hb hkv
          go_wp2
          go_ret2
          exact ⟨ret_two (by rw [H1.out, HF.out]; omega) H2.out.symm, HC.out.trans HG.out⟩


end Go.Proofs.YtppiilbcnkphbaaGreat
