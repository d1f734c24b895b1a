/- The greater field's functions at right elements: contracts. Conditions: the elements are right ones. -/
import Derived.Test.YtencdbocifpekaaExtS
import Derived.Test.YtencdbocifpekaaOkW
namespace Go.Proofs.Ytencdbocifpekaa
open Go.ChangeShapes Go.WideShapes Go.ChangeAt Go.RowKit
set_option linter.unusedVariables false

theorem eok_mod (a b : Int) : eok (a % 2130706433) (b % 2130706433) = true := eok_mk (fok_mk (mod_lo _) (mod_hi _)) (fok_mk (mod_lo _) (mod_hi _))
theorem eok_mu (a b c d : Int) : eok (Fld.mA a b c d) (Fld.mB a b c d) = true := eok_mk (fok_mk (Fld.mA_lo _ _ _ _) (Fld.mA_hi _ _ _ _)) (fok_mk (Fld.mB_lo _ _ _ _) (Fld.mB_hi _ _ _ _))
theorem eok_inv (a b : Int) : eok (Fld.iA a b) (Fld.iB a b) = true := eok_mk (fok_mk (Fld.iA_lo _ _) (Fld.iA_hi _ _)) (fok_mk (Fld.iB_lo _ _) (Fld.iB_hi _ _))
theorem eb_ok {a b c d : Int} (h : eok a b = true) (k : eok c d = true) (v : Int) : eb a b c d v = v := by simp [eb, h, k]
theorem ebad_ok {a b c d : Int} (h : eok a b = true) (k : eok c d = true) : ebad a b c d = 0 := by simp [ebad, h, k]

theorem extAdd_ok (a b c d : Int) (w : World) (h : eok a b = true) (k : eok c d = true) :
    Calls Try.prog 24 #[.agg #[.int .i64 a, .int .i64 b], .agg #[.int .i64 c, .int .i64 d]] w fun e w' => e = .returned (.tuple #[.agg #[.int .i64 ((a + c) % 2130706433), .int .i64 ((b + d) % 2130706433)], .int .i64 0]) ∧ Chg nob w w' := by
  have q := extAdd_any a b c d w
  rw [eb_ok h k, eb_ok h k, ebad_ok h k] at q
  exact q

/-- What was added is taken off. -/
theorem extSub_undo (a b c d : Int) (w : World) (h : eok a b = true) (k : eok c d = true) :
    Calls Try.prog 26 #[.agg #[.int .i64 ((a + c) % 2130706433), .int .i64 ((b + d) % 2130706433)], .agg #[.int .i64 c, .int .i64 d]] w fun e w' => e = .returned (.tuple #[.agg #[.int .i64 a, .int .i64 b], .int .i64 0]) ∧ Chg nob w w' := by
  have q := extSub_any ((a + c) % 2130706433) ((b + d) % 2130706433) c d w
  rw [eb_ok (eok_mod _ _) k, eb_ok (eok_mod _ _) k, ebad_ok (eok_mod _ _) k, undo a c (fok_lo (eok_a h)) (fok_hi (eok_a h)), undo b d (fok_lo (eok_b h)) (fok_hi (eok_b h))] at q
  exact q

theorem extMul_ok (a b c d : Int) (w : World) (h : eok a b = true) (k : eok c d = true) :
    Calls Try.prog 25 #[.agg #[.int .i64 a, .int .i64 b], .agg #[.int .i64 c, .int .i64 d]] w fun e w' => e = .returned (.tuple #[.agg #[.int .i64 (Fld.mA a b c d), .int .i64 (Fld.mB a b c d)], .int .i64 0]) ∧ Chg nob w w' := by
  have q := extMul_any a b c d w
  rw [eb_ok h k, eb_ok h k, ebad_ok h k] at q
  exact q

/-- A sum's product, as the sum of the products. -/
theorem extMul_dist (a b c d e f : Int) (w : World) (k : eok e f = true) :
    Calls Try.prog 25 #[.agg #[.int .i64 ((a + c) % 2130706433), .int .i64 ((b + d) % 2130706433)], .agg #[.int .i64 e, .int .i64 f]] w fun e' w' => e' = .returned (.tuple #[.agg #[.int .i64 ((Fld.mA a b e f + Fld.mA c d e f) % 2130706433), .int .i64 ((Fld.mB a b e f + Fld.mB c d e f) % 2130706433)], .int .i64 0]) ∧ Chg nob w w' := by
  have q := extMul_ok ((a + c) % 2130706433) ((b + d) % 2130706433) e f w (eok_mod _ _) k
  rw [Fld.mA_dist, Fld.mB_dist] at q
  exact q

/-- x squared is 3. -/
theorem extMul_three (w : World) :
    Calls Try.prog 25 #[.agg #[.int .i64 0, .int .i64 1], .agg #[.int .i64 0, .int .i64 1]] w fun e w' => e = .returned (.tuple #[.agg #[.int .i64 3, .int .i64 0], .int .i64 0]) ∧ Chg nob w w' := by
  have q := extMul_ok 0 1 0 1 w (by decide) (by decide)
  rw [show Fld.mA 0 1 0 1 = 3 by decide, show Fld.mB 0 1 0 1 = 0 by decide] at q
  exact q

theorem sExtMul_ok (a b c d : Int) (w : World) (h : eok a b = true) (k : eok c d = true) :
    Calls Try.prog 27 #[.agg #[.int .i64 a, .int .i64 b], .agg #[.int .i64 c, .int .i64 d]] w fun e w' => e = .returned (.tuple #[.agg #[.int .i64 (Fld.mA a b c d), .int .i64 (Fld.mB a b c d)], .int .i64 0]) ∧ Chg nob w w' := by
  have q := sExtMul_any a b c d w
  rw [eb_ok h k, eb_ok h k, ebad_ok h k] at q
  exact q

theorem normE_ok (a b : Int) (w : World) (h : eok a b = true) :
    Calls Try.prog 28 #[.agg #[.int .i64 a, .int .i64 b]] w fun e w' => e = .returned (.tuple #[.int .i64 (Fld.nm a b), .int .i64 0]) ∧ Chg nob w w' := by
  have q := normE_any a b w
  rw [show e1 a b (Fld.nm a b) = Fld.nm a b by simp [e1, h], show e1bad a b = 0 by simp [e1bad, h]] at q
  exact q

/-- Norms multiply. -/
theorem mul_norm (a b c d : Int) (w : World) :
    Calls Try.prog 11 #[.int .i64 (Fld.nm a b), .int .i64 (Fld.nm c d)] w fun e w' => e = .returned (.tuple #[.int .i64 (Fld.nm (Fld.mA a b c d) (Fld.mB a b c d)), .int .i64 0]) ∧ w' = w := by
  have q := mul_ok (Fld.nm a b) (Fld.nm c d) w (Fld.nm_lo _ _) (Fld.nm_hi _ _) (Fld.nm_lo _ _) (Fld.nm_hi _ _)
  rw [Fld.nm_mul] at q
  exact q

/-- A power by an int. -/
def pA (a b n : Int) : Int := (Fld.ep (a, b) n.toNat).1
def pB (a b n : Int) : Int := (Fld.ep (a, b) n.toNat).2
theorem eok_pow (a b n : Int) : eok (pA a b n) (pB a b n) = true := by
  obtain ⟨h0, h1, h2, h3⟩ := Fld.ep_red (a, b) n.toNat
  exact eok_mk (fok_mk h0 h1) (fok_mk h2 h3)
theorem pow_sum (a b m n : Int) (hm : 0 ≤ m) (hn : 0 ≤ n) : Fld.mA (pA a b m) (pB a b m) (pA a b n) (pB a b n) = pA a b (m + n) ∧ Fld.mB (pA a b m) (pB a b m) (pA a b n) (pB a b n) = pB a b (m + n) := by
  have h := Fld.ep_add (a, b) m.toNat n.toNat
  rw [← Int.toNat_add hm hn] at h
  exact ⟨(congrArg Prod.fst h).symm, (congrArg Prod.snd h).symm⟩

theorem extPow_ok (a b n : Int) (w : World) (h : eok a b = true) (n0 : 0 ≤ n) (n1 : n ≤ 9223372036854775807) :
    Calls Try.prog 29 #[.agg #[.int .i64 a, .int .i64 b], .int .i64 n] w fun e w' => e = .returned (.tuple #[.agg #[.int .i64 (pA a b n), .int .i64 (pB a b n)], .int .i64 0]) ∧ Chg nob w w' := by
  have q := extPow_any a b n w n1
  have hn : ¬ n < 0 := by omega
  rw [show powE1 a b n = pA a b n by simp [powE1, pA, h, hn], show powE2 a b n = pB a b n by simp [powE2, pB, h, hn], show powEc a b n = 0 by simp [powEc, h, hn]] at q
  exact q

/-- Powers add their exponents. -/
theorem extMul_pow (a b m n : Int) (w : World) (hm : 0 ≤ m) (hn : 0 ≤ n) :
    Calls Try.prog 25 #[.agg #[.int .i64 (pA a b m), .int .i64 (pB a b m)], .agg #[.int .i64 (pA a b n), .int .i64 (pB a b n)]] w fun e w' => e = .returned (.tuple #[.agg #[.int .i64 (pA a b (m + n)), .int .i64 (pB a b (m + n))], .int .i64 0]) ∧ Chg nob w w' := by
  have q := extMul_ok (pA a b m) (pB a b m) (pA a b n) (pB a b n) w (eok_pow _ _ _) (eok_pow _ _ _)
  rw [(pow_sum a b m n hm hn).1, (pow_sum a b m n hm hn).2] at q
  exact q

theorem extInverse_ok (a b : Int) (w : World) (h : eok a b = true) (hz : ¬ (a = 0 ∧ b = 0)) :
    Calls Try.prog 30 #[.agg #[.int .i64 a, .int .i64 b]] w fun e w' => e = .returned (.tuple #[.agg #[.int .i64 (Fld.iA a b), .int .i64 (Fld.iB a b)], .int .i64 0]) ∧ Chg nob w w' := by
  have q := extInverse_any a b w
  have hi : isz a b = false := by simp [isz]; omega
  rw [show invE1 a b = Fld.iA a b by simp [invE1, h, hi], show invE2 a b = Fld.iB a b by simp [invE2, h, hi], show invEc a b = 0 by simp [invEc, h, hi]] at q
  exact q

theorem extInverse_zero (w : World) :
    Calls Try.prog 30 #[.agg #[.int .i64 0, .int .i64 0]] w fun e w' => e = .returned (.tuple #[.agg #[.int .i64 0, .int .i64 0], .int .i64 7]) ∧ Chg nob w w' := by
  have q := extInverse_any 0 0 w
  rw [show invE1 0 0 = 0 by decide, show invE2 0 0 = 0 by decide, show invEc 0 0 = 7 by decide] at q
  exact q

/-- The inverse's product is 1. -/
theorem extMul_inv (a b : Int) (w : World) (h : eok a b = true) (hz : ¬ (a = 0 ∧ b = 0)) :
    Calls Try.prog 25 #[.agg #[.int .i64 (Fld.iA a b), .int .i64 (Fld.iB a b)], .agg #[.int .i64 a, .int .i64 b]] w fun e w' => e = .returned (.tuple #[.agg #[.int .i64 1, .int .i64 0], .int .i64 0]) ∧ Chg nob w w' := by
  have q := extMul_ok (Fld.iA a b) (Fld.iB a b) a b w (eok_inv _ _) h
  rw [Fld.iA_mul a b (fok_lo (eok_a h)) (fok_hi (eok_a h)) (fok_lo (eok_b h)) (fok_hi (eok_b h)) (by omega), Fld.iB_mul] at q
  exact q

set_option maxHeartbeats 400000 in
theorem one_any (w : World) :
    Calls Try.prog 31 #[] w fun e w' => e = .returned (.agg #[.int .i64 1, .int .i64 0]) ∧ w' = w.alloc (.cells #[.int .i64 1, .int .i64 0] 37) := by
  go_enter Try.func31, Try.ntmps31
  go_wp2
  exact bodyPost_ret (v := .agg #[.int .i64 1, .int .i64 0]) (by simp [results, Try.results31, go_sem]) rfl ⟨rfl, rfl⟩

end Go.Proofs.Ytencdbocifpekaa
