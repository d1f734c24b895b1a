/- How many bytes an opening has, the program's answer and the model's: contracts. No condition but those that each theorem states. -/
import Derived.Test.YtfbjlohnbpienaaSetW
namespace Go.Proofs.Ytfbjlohnbpienaa
open Go.ChangeShapes Go.WideShapes Go.ChangeAt Go.RowKit
set_option linter.unusedVariables false
set_option maxRecDepth 100000
set_option linter.unusedSimpArgs false

/-- Hashes of the first k paths of a query. -/
def hpl (v r : Int) : Nat → Int
  | 0 => 0
  | k + 1 => hpl v r k + (v + r - 1 - (k : Int))
theorem hpl_bd (v r : Int) (hv : 1 ≤ v) (hv2 : v ≤ 6) (hr : 1 ≤ r) (hr2 : r ≤ 3) : ∀ k : Nat, (k : Int) ≤ v → 0 ≤ hpl v r k ∧ hpl v r k ≤ 8 * (k : Int)
  | 0, _ => by simp [hpl]
  | k + 1, h => by
    have := hpl_bd v r hv hv2 hr hr2 k (by omega)
    simp only [hpl]
    omega
/-- How many bytes. -/
def osn (v r q : Int) : Int := 24 * v + 32 * (v - 1) + 12 + q * (16 * v + 32 * hpl v r v.toNat)
/-- OpeningSize's code. -/
def osc (v r q g : Int) : Int := if stb r q g then (if vrB v then 0 else 4) else 1
def osv (v r q g : Int) : Int := if stb r q g && vrB v then osn v r q else 0

set_option maxHeartbeats 2000000 in
theorem openingSize_any (v r q g : Int) (w : World) :
    Calls Try.prog 48 #[.int .i64 v, .agg #[.int .i64 r, .int .i64 q, .int .i64 g]] w fun e w' => e = .returned (.tuple #[.int .i64 (osv v r q g), .int .i64 (osc v r q g)]) ∧ Chg nob w w' := by
  cases h1 : stb r q g
  · have H1 := hik (show osv v r q g = 0 by simp [osv, h1])
    have H2 := hik (show osc v r q g = 1 by simp [osc, h1])
    go_enter Try.func48, Try.ntmps48
    go_wp2_with (go_at_call 47; refine (settingOK_any _ _ _ _).mono ?_; rintro e w1 ⟨rfl, k1⟩; have K1 := hik k1; clear k1)
    go_ret2
    exact ⟨ret_two H1.out.symm H2.out.symm, ((Chg.refl _ _).alloc _).trans K1.out⟩
  · cases h2 : vrB v
    · have H1 := hik (show osv v r q g = 0 by simp [osv, h1, h2])
      have H2 := hik (show osc v r q g = 4 by simp [osc, h1, h2])
      go_enter Try.func48, Try.ntmps48
      go_wp2_with (first | (go_at_call 47; refine (settingOK_any _ _ _ _).mono ?_; rintro e w1 ⟨rfl, k1⟩; have K1 := hik k1; clear k1) | (go_at_call 60; refine (isOpenVars_any _ _).mono ?_; rintro e w2 ⟨rfl, hw⟩; have hw := hw.symm; subst hw))
      go_ret2
      exact ⟨ret_two H1.out.symm H2.out.symm, ((Chg.refl _ _).alloc _).trans K1.out⟩
    · have H1 := hik (show osv v r q g = osn v r q by simp [osv, h1, h2])
      have H2 := hik (show osc v r q g = 0 by simp [osc, h1, h2])
      have P := stb_parts h1
      obtain ⟨⟨r0, r1⟩, ⟨q0, q1⟩, g0, g1⟩ := P
      obtain ⟨v0, v1⟩ := vrB_parts h2
      go_enter Try.func48, Try.ntmps48
      go_wp2_with (first | (go_at_call 47; refine (settingOK_any _ _ _ _).mono ?_; rintro e w1 ⟨rfl, k1⟩; have K1 := hik k1; obtain ⟨c1, f1, z1⟩ := kcell k1 (w.heap.size + 1) (by simp); clear k1) | (go_at_call 60; refine (isOpenVars_any _ _).mono ?_; rintro e w2 ⟨rfl, hw⟩; have hw := hw.symm; subst hw))
      have HC := hik (((Chg.refl nob w).alloc (.cells #[.int .i64 r, .int .i64 q, .int .i64 g] 41)).trans K1.out)
      have x0 : w1.cell? ⟨w.heap.size, 0, none⟩ = some (.int .i64 r) := K1.out.look (by go_simp)
      have x1 : w1.cell? ⟨w.heap.size, 1, none⟩ = some (.int .i64 q) := K1.out.look (by go_simp)
      have x2 : w1.cell? ⟨w.heap.size, 2, none⟩ = some (.int .i64 g) := K1.out.look (by go_simp)
      clear c1 f1 z1
      go_loopw [6, 18] (fun s i W => ∃ k : Nat, (k : Int) ≤ v ∧ i = .int .i64 (k : Int) ∧ s = .int .i64 (16 * v + 32 * hpl v r k) ∧ Hid (Chg nob w1 W)) (fun _ i _ => v.toNat - (intOf i).toNat)
      case atStart => exact ⟨0, by omega, rfl, by simp only [hpl]; go_num, hik (Chg.refl _ _)⟩
      case round =>
        obtain ⟨k, hk, rfl, rfl, HG⟩ := hrel
        rename World => wi
        have y0 := HG.out.look x0
        have y1 := HG.out.look x1
        have y2 := HG.out.look x2
        have hb := hpl_bd v r v0 v1 r0 r1 k hk
        by_cases hlt : (k : Int) < v
        · have hs := hik (show 16 * v + 32 * hpl v r (k + 1) = 16 * v + 32 * hpl v r k + (v + r - 1 - (k : Int)) * 32 by simp only [hpl]; omega)
          go_wp2_with (go_at_call 81; refine (pathLength_any _ _ _ _ _ _ (by omega) (by omega) (by omega) (by omega) (by omega) (by omega)).mono ?_; rintro e w2 ⟨rfl, rfl⟩)
          go_roundw
          case rel => exact ⟨k + 1, by omega, by go_num, by rw [hs.out], hik (HG.out.alloc _)⟩
          case measure => simp [intOf]; omega
        · have hkv : k = v.toNat := by omega
          have HF := hik (show osn v r q = 24 * v + 32 * (v - 1) + 12 + q * (16 * v + 32 * hpl v r k) by rw [hkv]; rfl)
          obtain ⟨X, hX⟩ : ∃ X, X = 16 * v + 32 * hpl v r k := ⟨_, rfl⟩
          have hX0 : 0 ≤ X := by omega
          have hX1 : X ≤ 2000 := by omega
          rw [← hX] at HF ⊢
          have hq : 0 ≤ q * X ∧ q * X ≤ 16000 := ⟨Int.mul_nonneg (by omega) hX0, Int.le_trans (Int.mul_le_mul q1 hX1 hX0 (by omega)) (by omega)⟩
          obtain ⟨hq0, hq1⟩ := hq
          clear hX hb hkv
          go_wp2
          go_ret2
          exact ⟨ret_two (by rw [H1.out, HF.out]; omega) H2.out.symm, HC.out.trans HG.out⟩

set_option maxHeartbeats 2000000 in
theorem sSize_any9 (v r q g : Int) (w : World) (r0 : 1 ≤ r) (r1 : r ≤ 3) (q0 : 1 ≤ q) (q1 : q ≤ 8) (v0 : 1 ≤ v) (v1 : v ≤ 6) :
    Calls Try.prog 72 #[.int .i64 v, .agg #[.int .i64 r, .int .i64 q, .int .i64 g]] w fun e w' => e = .returned (.int .i64 (osn v r q)) ∧ Chg nob w w' := by
  go_enter Try.func72, Try.ntmps72
  go_wp2
  go_loop [5, 6] (fun s i => ∃ k : Nat, (k : Int) ≤ v ∧ i = .int .i64 (k : Int) ∧ s = .int .i64 (hpl v r k)) (fun _ i => v.toNat - (intOf i).toNat)
  case atStart => exact ⟨0, by omega, rfl, rfl⟩
  case round =>
    obtain ⟨k, hk, rfl, rfl⟩ := hrel
    have hb := hpl_bd v r v0 v1 r0 r1 k hk
    by_cases hlt : (k : Int) < v
    · have hs := hik (show hpl v r (k + 1) = hpl v r k + (v + r - 1 - (k : Int)) from rfl)
      go_wp2
      go_round
      case rel => exact ⟨k + 1, by omega, by go_num, by rw [hs.out]⟩
      case measure => simp [intOf]; omega
    · have hkv : k = v.toNat := by omega
      have HF := hik (show osn v r q = 24 * v + 32 * (v - 1) + 12 + q * (16 * v + 32 * hpl v r k) by rw [hkv]; rfl)
      obtain ⟨Y, hY⟩ : ∃ Y, Y = hpl v r k := ⟨_, rfl⟩
      rw [← hY] at HF hb ⊢
      have hX0 : 0 ≤ 16 * v + 32 * Y := by omega
      have hX1 : 16 * v + 32 * Y ≤ 2000 := by omega
      have hq0 : 0 ≤ q * (16 * v + 32 * Y) := Int.mul_nonneg (by omega) hX0
      have hq1 : q * (16 * v + 32 * Y) ≤ 16000 := Int.le_trans (Int.mul_le_mul q1 hX1 hX0 (by omega)) (by omega)
      clear hY hkv
      go_wp2
      go_ret
      exact ⟨ret_int (by rw [HF.out]; omega), (Chg.refl _ _).alloc _⟩

end Go.Proofs.Ytfbjlohnbpienaa
