/- What the greater field's exported functions answer, whatever the numbers: contracts. No condition but those that are stated. -/
import Derived.Test.YtencdbocifpekaaExtW
namespace Go.Proofs.Ytencdbocifpekaa
open Go.ChangeShapes Go.WideShapes Go.ChangeAt Go.RowKit
set_option linter.unusedVariables false
set_option linter.unusedSimpArgs false

/-- What is answered of two elements. -/
def eb (a b c d v : Int) : Int := if eok a b && eok c d then v else 0
def ebad (a b c d : Int) : Int := if eok a b && eok c d then 0 else 1
/-- What is answered of one. -/
def e1 (a b v : Int) : Int := if eok a b then v else 0
def e1bad (a b : Int) : Int := if eok a b then 0 else 1
/-- Of a power. -/
def powE1 (a b n : Int) : Int := if eok a b then (if n < 0 then 0 else (Fld.ep (a, b) n.toNat).1) else 0
def powE2 (a b n : Int) : Int := if eok a b then (if n < 0 then 0 else (Fld.ep (a, b) n.toNat).2) else 0
def powEc (a b n : Int) : Int := if eok a b then (if n < 0 then 4 else 0) else 1
/-- The element is 0. -/
def isz (a b : Int) : Bool := a == 0 && b == 0
def invE1 (a b : Int) : Int := if eok a b then (if isz a b then 0 else Fld.iA a b) else 0
def invE2 (a b : Int) : Int := if eok a b then (if isz a b then 0 else Fld.iB a b) else 0
def invEc (a b : Int) : Int := if eok a b then (if isz a b then 7 else 0) else 1

set_option maxHeartbeats 1000000 in
theorem extInv_any (a b : Int) (w : World) (a0 : 0 ≤ a) (a1 : a < 2130706433) (b0 : 0 ≤ b) (b1 : b < 2130706433) :
    Calls Try.prog 63 #[.agg #[.int .i64 a, .int .i64 b]] w fun e w' => e = .returned (.agg #[.int .i64 (Fld.iA a b), .int .i64 (Fld.iB a b)]) ∧ Chg nob w w' := by
  have n0 := Fld.ng_lo b
  have n1 := Fld.ng_hi b
  have m0 := Fld.nm_lo a b
  have m1 := Fld.nm_hi a b
  have i0 : 0 ≤ Fld.pw (Fld.nm a b) 2130706431 % 2130706433 := mod_lo _
  have i1 : Fld.pw (Fld.nm a b) 2130706431 % 2130706433 < 2130706433 := mod_hi _
  have z0 : (0 : Int) ≤ 0 := by decide
  have z1 : (0 : Int) < 2130706433 := by decide
  go_enter Try.func63, Try.ntmps63
  go_wp2_with (first | (go_at_call 61; refine (norm_any _ _ _  (by assumption) (by assumption) (by assumption) (by assumption)).mono ?_; rintro e w1 ⟨rfl, hk⟩; obtain ⟨hc, hf, hz⟩ := kcell hk (w.heap.size + 2) (by first | assumption | simp)) | (go_at_call 44; refine (toMont_any _ _ (by assumption) (by assumption)).mono ?_; rintro e w' ⟨rfl, rfl⟩) | (go_at_call 47; refine (montInverse_any _ _).mono ?_; rintro e w' ⟨rfl, rfl⟩) | (go_at_call 42; refine (fromMont_any _ _).mono ?_; rintro e w' ⟨rfl, rfl⟩) | (go_at_call 77; refine (conj_any _ _ _  (by assumption) (by assumption) (by assumption) (by assumption)).mono ?_; rintro e w1 ⟨rfl, hk⟩; obtain ⟨hc, hf, hz⟩ := kcell hk (w.heap.size + 2) (by first | assumption | simp)) | (go_at_call 57; refine (times_any _ _ _ _ _  (by assumption) (by assumption) (by assumption) (by assumption) (by assumption) (by assumption) (by assumption) (by assumption)).mono ?_; rintro e w1 ⟨rfl, hk⟩; obtain ⟨hc, hf, hz⟩ := kcell hk (w.heap.size + 2) (by first | assumption | simp)))
  exact bodyPost_ret (v := .agg #[.int .i64 (Fld.mA a (Fld.ng b) (Fld.iv1 a b) 0), .int .i64 (Fld.mB a (Fld.ng b) (Fld.iv1 a b) 0)]) (by simp [results, Try.results63, go_sem, *, Fld.iv1]) rfl ⟨by rw [Fld.iA_conj, Fld.iB_conj], (by repeat (first | with_reducible exact Chg.refl _ _ | with_reducible refine Chg.alloc ?_ _ | with_reducible refine Chg.drewN ?_ _ | with_reducible refine Chg.drew ?_ | with_reducible refine Chg.setCell ?_ (fun l => absurd l (by dsimp only; omega)) _ | with_reducible refine Chg.trans ?_ (by assumption)))⟩

set_option maxHeartbeats 1000000 in
theorem extAdd_any (a b c d : Int) (w : World) :
    Calls Try.prog 24 #[.agg #[.int .i64 a, .int .i64 b], .agg #[.int .i64 c, .int .i64 d]] w fun e w' => e = .returned (.tuple #[.agg #[.int .i64 (eb a b c d ((a + c) % 2130706433)), .int .i64 (eb a b c d ((b + d) % 2130706433))], .int .i64 (ebad a b c d)]) ∧ Chg nob w w' := by
  cases ha : eok a b
  · go_enter Try.func24, Try.ntmps24
    go_wp2_with (go_at_call 55; refine (extOK_any _ _ _  ).mono ?_; rintro e w1 ⟨rfl, hk⟩; obtain ⟨hc, hf, hz⟩ := kcell hk (w.heap.size + 3) (by first | assumption | simp))
    exact bodyPost_ret (v := .tuple #[.agg #[.int .i64 (eb a b c d ((a + c) % 2130706433)), .int .i64 (eb a b c d ((b + d) % 2130706433))], .int .i64 (ebad a b c d)]) (by simp [results, Try.results24, go_sem, *, eb, ebad]) rfl ⟨rfl, (by repeat (first | with_reducible exact Chg.refl _ _ | with_reducible refine Chg.alloc ?_ _ | with_reducible refine Chg.drewN ?_ _ | with_reducible refine Chg.drew ?_ | with_reducible refine Chg.setCell ?_ (fun l => absurd l (by dsimp only; omega)) _ | with_reducible refine Chg.trans ?_ (by assumption)))⟩
  · cases hb : eok c d
    · go_enter Try.func24, Try.ntmps24
      go_wp2_with (go_at_call 55; refine (extOK_any _ _ _  ).mono ?_; rintro e w1 ⟨rfl, hk⟩; obtain ⟨hc, hf, hz⟩ := kcell hk (w.heap.size + 3) (by first | assumption | simp))
      exact bodyPost_ret (v := .tuple #[.agg #[.int .i64 (eb a b c d ((a + c) % 2130706433)), .int .i64 (eb a b c d ((b + d) % 2130706433))], .int .i64 (ebad a b c d)]) (by simp [results, Try.results24, go_sem, *, eb, ebad]) rfl ⟨rfl, (by repeat (first | with_reducible exact Chg.refl _ _ | with_reducible refine Chg.alloc ?_ _ | with_reducible refine Chg.drewN ?_ _ | with_reducible refine Chg.drew ?_ | with_reducible refine Chg.setCell ?_ (fun l => absurd l (by dsimp only; omega)) _ | with_reducible refine Chg.trans ?_ (by assumption)))⟩
    · skip
      have a0 := fok_lo (eok_a ha)
      have a1 := fok_hi (eok_a ha)
      have b0 := fok_lo (eok_b ha)
      have b1 := fok_hi (eok_b ha)
      have c0 := fok_lo (eok_a hb)
      have c1 := fok_hi (eok_a hb)
      have d0 := fok_lo (eok_b hb)
      have d1 := fok_hi (eok_b hb)
      go_enter Try.func24, Try.ntmps24
      go_wp2_with (first | (go_at_call 55; refine (extOK_any _ _ _  ).mono ?_; rintro e w1 ⟨rfl, hk⟩; obtain ⟨hc, hf, hz⟩ := kcell hk (w.heap.size + 3) (by first | assumption | simp)) | (go_at_call 56; refine (plus_any _ _ _ _ _  (by assumption) (by assumption) (by assumption) (by assumption) (by assumption) (by assumption) (by assumption) (by assumption)).mono ?_; rintro e w1 ⟨rfl, hk⟩; obtain ⟨hc, hf, hz⟩ := kcell hk (w.heap.size + 3) (by first | assumption | simp)))
      exact bodyPost_ret (v := .tuple #[.agg #[.int .i64 (eb a b c d ((a + c) % 2130706433)), .int .i64 (eb a b c d ((b + d) % 2130706433))], .int .i64 (ebad a b c d)]) (by simp [results, Try.results24, go_sem, *, eb, ebad]) rfl ⟨rfl, (by repeat (first | with_reducible exact Chg.refl _ _ | with_reducible refine Chg.alloc ?_ _ | with_reducible refine Chg.drewN ?_ _ | with_reducible refine Chg.drew ?_ | with_reducible refine Chg.setCell ?_ (fun l => absurd l (by dsimp only; omega)) _ | with_reducible refine Chg.trans ?_ (by assumption)))⟩

set_option maxHeartbeats 1000000 in
theorem extSub_any (a b c d : Int) (w : World) :
    Calls Try.prog 26 #[.agg #[.int .i64 a, .int .i64 b], .agg #[.int .i64 c, .int .i64 d]] w fun e w' => e = .returned (.tuple #[.agg #[.int .i64 (eb a b c d ((a + 2130706433 - c) % 2130706433)), .int .i64 (eb a b c d ((b + 2130706433 - d) % 2130706433))], .int .i64 (ebad a b c d)]) ∧ Chg nob w w' := by
  cases ha : eok a b
  · go_enter Try.func26, Try.ntmps26
    go_wp2_with (go_at_call 55; refine (extOK_any _ _ _  ).mono ?_; rintro e w1 ⟨rfl, hk⟩; obtain ⟨hc, hf, hz⟩ := kcell hk (w.heap.size + 3) (by first | assumption | simp))
    exact bodyPost_ret (v := .tuple #[.agg #[.int .i64 (eb a b c d ((a + 2130706433 - c) % 2130706433)), .int .i64 (eb a b c d ((b + 2130706433 - d) % 2130706433))], .int .i64 (ebad a b c d)]) (by simp [results, Try.results26, go_sem, *, eb, ebad]) rfl ⟨rfl, (by repeat (first | with_reducible exact Chg.refl _ _ | with_reducible refine Chg.alloc ?_ _ | with_reducible refine Chg.drewN ?_ _ | with_reducible refine Chg.drew ?_ | with_reducible refine Chg.setCell ?_ (fun l => absurd l (by dsimp only; omega)) _ | with_reducible refine Chg.trans ?_ (by assumption)))⟩
  · cases hb : eok c d
    · go_enter Try.func26, Try.ntmps26
      go_wp2_with (go_at_call 55; refine (extOK_any _ _ _  ).mono ?_; rintro e w1 ⟨rfl, hk⟩; obtain ⟨hc, hf, hz⟩ := kcell hk (w.heap.size + 3) (by first | assumption | simp))
      exact bodyPost_ret (v := .tuple #[.agg #[.int .i64 (eb a b c d ((a + 2130706433 - c) % 2130706433)), .int .i64 (eb a b c d ((b + 2130706433 - d) % 2130706433))], .int .i64 (ebad a b c d)]) (by simp [results, Try.results26, go_sem, *, eb, ebad]) rfl ⟨rfl, (by repeat (first | with_reducible exact Chg.refl _ _ | with_reducible refine Chg.alloc ?_ _ | with_reducible refine Chg.drewN ?_ _ | with_reducible refine Chg.drew ?_ | with_reducible refine Chg.setCell ?_ (fun l => absurd l (by dsimp only; omega)) _ | with_reducible refine Chg.trans ?_ (by assumption)))⟩
    · skip
      have a0 := fok_lo (eok_a ha)
      have a1 := fok_hi (eok_a ha)
      have b0 := fok_lo (eok_b ha)
      have b1 := fok_hi (eok_b ha)
      have c0 := fok_lo (eok_a hb)
      have c1 := fok_hi (eok_a hb)
      have d0 := fok_lo (eok_b hb)
      have d1 := fok_hi (eok_b hb)
      go_enter Try.func26, Try.ntmps26
      go_wp2_with (first | (go_at_call 55; refine (extOK_any _ _ _  ).mono ?_; rintro e w1 ⟨rfl, hk⟩; obtain ⟨hc, hf, hz⟩ := kcell hk (w.heap.size + 3) (by first | assumption | simp)) | (go_at_call 58; refine (minus_any _ _ _ _ _  (by assumption) (by assumption) (by assumption) (by assumption) (by assumption) (by assumption) (by assumption) (by assumption)).mono ?_; rintro e w1 ⟨rfl, hk⟩; obtain ⟨hc, hf, hz⟩ := kcell hk (w.heap.size + 3) (by first | assumption | simp)))
      exact bodyPost_ret (v := .tuple #[.agg #[.int .i64 (eb a b c d ((a + 2130706433 - c) % 2130706433)), .int .i64 (eb a b c d ((b + 2130706433 - d) % 2130706433))], .int .i64 (ebad a b c d)]) (by simp [results, Try.results26, go_sem, *, eb, ebad]) rfl ⟨rfl, (by repeat (first | with_reducible exact Chg.refl _ _ | with_reducible refine Chg.alloc ?_ _ | with_reducible refine Chg.drewN ?_ _ | with_reducible refine Chg.drew ?_ | with_reducible refine Chg.setCell ?_ (fun l => absurd l (by dsimp only; omega)) _ | with_reducible refine Chg.trans ?_ (by assumption)))⟩

set_option maxHeartbeats 1000000 in
theorem extMul_any (a b c d : Int) (w : World) :
    Calls Try.prog 25 #[.agg #[.int .i64 a, .int .i64 b], .agg #[.int .i64 c, .int .i64 d]] w fun e w' => e = .returned (.tuple #[.agg #[.int .i64 (eb a b c d (Fld.mA a b c d)), .int .i64 (eb a b c d (Fld.mB a b c d))], .int .i64 (ebad a b c d)]) ∧ Chg nob w w' := by
  cases ha : eok a b
  · go_enter Try.func25, Try.ntmps25
    go_wp2_with (go_at_call 55; refine (extOK_any _ _ _  ).mono ?_; rintro e w1 ⟨rfl, hk⟩; obtain ⟨hc, hf, hz⟩ := kcell hk (w.heap.size + 3) (by first | assumption | simp))
    exact bodyPost_ret (v := .tuple #[.agg #[.int .i64 (eb a b c d (Fld.mA a b c d)), .int .i64 (eb a b c d (Fld.mB a b c d))], .int .i64 (ebad a b c d)]) (by simp [results, Try.results25, go_sem, *, eb, ebad]) rfl ⟨rfl, (by repeat (first | with_reducible exact Chg.refl _ _ | with_reducible refine Chg.alloc ?_ _ | with_reducible refine Chg.drewN ?_ _ | with_reducible refine Chg.drew ?_ | with_reducible refine Chg.setCell ?_ (fun l => absurd l (by dsimp only; omega)) _ | with_reducible refine Chg.trans ?_ (by assumption)))⟩
  · cases hb : eok c d
    · go_enter Try.func25, Try.ntmps25
      go_wp2_with (go_at_call 55; refine (extOK_any _ _ _  ).mono ?_; rintro e w1 ⟨rfl, hk⟩; obtain ⟨hc, hf, hz⟩ := kcell hk (w.heap.size + 3) (by first | assumption | simp))
      exact bodyPost_ret (v := .tuple #[.agg #[.int .i64 (eb a b c d (Fld.mA a b c d)), .int .i64 (eb a b c d (Fld.mB a b c d))], .int .i64 (ebad a b c d)]) (by simp [results, Try.results25, go_sem, *, eb, ebad]) rfl ⟨rfl, (by repeat (first | with_reducible exact Chg.refl _ _ | with_reducible refine Chg.alloc ?_ _ | with_reducible refine Chg.drewN ?_ _ | with_reducible refine Chg.drew ?_ | with_reducible refine Chg.setCell ?_ (fun l => absurd l (by dsimp only; omega)) _ | with_reducible refine Chg.trans ?_ (by assumption)))⟩
    · skip
      have a0 := fok_lo (eok_a ha)
      have a1 := fok_hi (eok_a ha)
      have b0 := fok_lo (eok_b ha)
      have b1 := fok_hi (eok_b ha)
      have c0 := fok_lo (eok_a hb)
      have c1 := fok_hi (eok_a hb)
      have d0 := fok_lo (eok_b hb)
      have d1 := fok_hi (eok_b hb)
      go_enter Try.func25, Try.ntmps25
      go_wp2_with (first | (go_at_call 55; refine (extOK_any _ _ _  ).mono ?_; rintro e w1 ⟨rfl, hk⟩; obtain ⟨hc, hf, hz⟩ := kcell hk (w.heap.size + 3) (by first | assumption | simp)) | (go_at_call 57; refine (times_any _ _ _ _ _  (by assumption) (by assumption) (by assumption) (by assumption) (by assumption) (by assumption) (by assumption) (by assumption)).mono ?_; rintro e w1 ⟨rfl, hk⟩; obtain ⟨hc, hf, hz⟩ := kcell hk (w.heap.size + 3) (by first | assumption | simp)))
      exact bodyPost_ret (v := .tuple #[.agg #[.int .i64 (eb a b c d (Fld.mA a b c d)), .int .i64 (eb a b c d (Fld.mB a b c d))], .int .i64 (ebad a b c d)]) (by simp [results, Try.results25, go_sem, *, eb, ebad]) rfl ⟨rfl, (by repeat (first | with_reducible exact Chg.refl _ _ | with_reducible refine Chg.alloc ?_ _ | with_reducible refine Chg.drewN ?_ _ | with_reducible refine Chg.drew ?_ | with_reducible refine Chg.setCell ?_ (fun l => absurd l (by dsimp only; omega)) _ | with_reducible refine Chg.trans ?_ (by assumption)))⟩

set_option maxHeartbeats 1000000 in
theorem normE_any (a b : Int) (w : World) :
    Calls Try.prog 28 #[.agg #[.int .i64 a, .int .i64 b]] w fun e w' => e = .returned (.tuple #[.int .i64 (e1 a b (Fld.nm a b)), .int .i64 (e1bad a b)]) ∧ Chg nob w w' := by
  cases ha : eok a b
  · go_enter Try.func28, Try.ntmps28
    go_wp2_with (go_at_call 55; refine (extOK_any _ _ _  ).mono ?_; rintro e w1 ⟨rfl, hk⟩; obtain ⟨hc, hf, hz⟩ := kcell hk (w.heap.size + 1) (by first | assumption | simp))
    go_ret2
    exact ⟨ret_two (by simp [e1, ha]) (by simp [e1bad, ha]), (by repeat (first | with_reducible exact Chg.refl _ _ | with_reducible refine Chg.alloc ?_ _ | with_reducible refine Chg.drewN ?_ _ | with_reducible refine Chg.drew ?_ | with_reducible refine Chg.setCell ?_ (fun l => absurd l (by dsimp only; omega)) _ | with_reducible refine Chg.trans ?_ (by assumption)))⟩
  · skip
    have a0 := fok_lo (eok_a ha)
    have a1 := fok_hi (eok_a ha)
    have b0 := fok_lo (eok_b ha)
    have b1 := fok_hi (eok_b ha)
    go_enter Try.func28, Try.ntmps28
    go_wp2_with (first | (go_at_call 55; refine (extOK_any _ _ _  ).mono ?_; rintro e w1 ⟨rfl, hk⟩; obtain ⟨hc, hf, hz⟩ := kcell hk (w.heap.size + 1) (by first | assumption | simp)) | (go_at_call 61; refine (norm_any _ _ _  (by assumption) (by assumption) (by assumption) (by assumption)).mono ?_; rintro e w1 ⟨rfl, hk⟩; obtain ⟨hc, hf, hz⟩ := kcell hk (w.heap.size + 1) (by first | assumption | simp)))
    go_ret2
    exact ⟨ret_two (by simp [e1, ha]) (by simp [e1bad, ha]), (by repeat (first | with_reducible exact Chg.refl _ _ | with_reducible refine Chg.alloc ?_ _ | with_reducible refine Chg.drewN ?_ _ | with_reducible refine Chg.drew ?_ | with_reducible refine Chg.setCell ?_ (fun l => absurd l (by dsimp only; omega)) _ | with_reducible refine Chg.trans ?_ (by assumption)))⟩

set_option maxHeartbeats 1000000 in
theorem extPow_any (a b n : Int) (w : World) (hn : n ≤ 9223372036854775807) :
    Calls Try.prog 29 #[.agg #[.int .i64 a, .int .i64 b], .int .i64 n] w fun e w' => e = .returned (.tuple #[.agg #[.int .i64 (powE1 a b n), .int .i64 (powE2 a b n)], .int .i64 (powEc a b n)]) ∧ Chg nob w w' := by
  cases ha : eok a b
  · go_enter Try.func29, Try.ntmps29
    go_wp2_with (go_at_call 55; refine (extOK_any _ _ _  ).mono ?_; rintro e w1 ⟨rfl, hk⟩; obtain ⟨hc, hf, hz⟩ := kcell hk (w.heap.size + 2) (by first | assumption | simp))
    exact bodyPost_ret (v := .tuple #[.agg #[.int .i64 (powE1 a b n), .int .i64 (powE2 a b n)], .int .i64 (powEc a b n)]) (by simp [results, Try.results29, go_sem, *, powE1, powE2, powEc]) rfl ⟨rfl, (by repeat (first | with_reducible exact Chg.refl _ _ | with_reducible refine Chg.alloc ?_ _ | with_reducible refine Chg.drewN ?_ _ | with_reducible refine Chg.drew ?_ | with_reducible refine Chg.setCell ?_ (fun l => absurd l (by dsimp only; omega)) _ | with_reducible refine Chg.trans ?_ (by assumption)))⟩
  · by_cases h0 : n < 0
    · go_enter Try.func29, Try.ntmps29
      go_wp2_with (go_at_call 55; refine (extOK_any _ _ _  ).mono ?_; rintro e w1 ⟨rfl, hk⟩; obtain ⟨hc, hf, hz⟩ := kcell hk (w.heap.size + 2) (by first | assumption | simp))
      exact bodyPost_ret (v := .tuple #[.agg #[.int .i64 (powE1 a b n), .int .i64 (powE2 a b n)], .int .i64 (powEc a b n)]) (by simp [results, Try.results29, go_sem, *, powE1, powE2, powEc]) rfl ⟨rfl, (by repeat (first | with_reducible exact Chg.refl _ _ | with_reducible refine Chg.alloc ?_ _ | with_reducible refine Chg.drewN ?_ _ | with_reducible refine Chg.drew ?_ | with_reducible refine Chg.setCell ?_ (fun l => absurd l (by dsimp only; omega)) _ | with_reducible refine Chg.trans ?_ (by assumption)))⟩
    · have a0 := fok_lo (eok_a ha)
      have a1 := fok_hi (eok_a ha)
      have b0 := fok_lo (eok_b ha)
      have b1 := fok_hi (eok_b ha)
      obtain ⟨k, rfl⟩ := Int.eq_ofNat_of_zero_le (show 0 ≤ n by omega)
      have q1 : powE1 a b k = (Fld.ep (a, b) k).1 := by simp [powE1, ha, h0]
      have q2 : powE2 a b k = (Fld.ep (a, b) k).2 := by simp [powE2, ha, h0]
      have q3 : powEc a b k = 0 := by simp [powEc, ha, h0]
      rw [q1, q2, q3]
      clear q1 q2 q3
      go_enter Try.func29, Try.ntmps29
      go_wp2_with (first | (go_at_call 55; refine (extOK_any _ _ _  ).mono ?_; rintro e w1 ⟨rfl, hk⟩; obtain ⟨hc, hf, hz⟩ := kcell hk (w.heap.size + 2) (by first | assumption | simp)) | (go_at_call 62; refine (power_any _ _ _ _ (by assumption) (by assumption) (by assumption) (by assumption) (by assumption)).mono ?_; rintro e w1 ⟨rfl, hk⟩; obtain ⟨hc, hf, hz⟩ := kcell hk (w.heap.size + 2) (by first | assumption | simp)))
      exact bodyPost_ret (v := .tuple #[.agg #[.int .i64 (Fld.ep (a, b) k).1, .int .i64 (Fld.ep (a, b) k).2], .int .i64 0]) (by simp [results, Try.results29, go_sem, *]) rfl ⟨rfl, (by repeat (first | with_reducible exact Chg.refl _ _ | with_reducible refine Chg.alloc ?_ _ | with_reducible refine Chg.drewN ?_ _ | with_reducible refine Chg.drew ?_ | with_reducible refine Chg.setCell ?_ (fun l => absurd l (by dsimp only; omega)) _ | with_reducible refine Chg.trans ?_ (by assumption)))⟩

set_option maxHeartbeats 1000000 in
theorem extInverse_any (a b : Int) (w : World) :
    Calls Try.prog 30 #[.agg #[.int .i64 a, .int .i64 b]] w fun e w' => e = .returned (.tuple #[.agg #[.int .i64 (invE1 a b), .int .i64 (invE2 a b)], .int .i64 (invEc a b)]) ∧ Chg nob w w' := by
  cases ha : eok a b
  · go_enter Try.func30, Try.ntmps30
    go_wp2_with (go_at_call 55; refine (extOK_any _ _ _  ).mono ?_; rintro e w1 ⟨rfl, hk⟩; obtain ⟨hc, hf, hz⟩ := kcell hk (w.heap.size + 2) (by first | assumption | simp))
    exact bodyPost_ret (v := .tuple #[.agg #[.int .i64 (invE1 a b), .int .i64 (invE2 a b)], .int .i64 (invEc a b)]) (by simp [results, Try.results30, go_sem, *, invE1, invE2, invEc]) rfl ⟨rfl, (by repeat (first | with_reducible exact Chg.refl _ _ | with_reducible refine Chg.alloc ?_ _ | with_reducible refine Chg.drewN ?_ _ | with_reducible refine Chg.drew ?_ | with_reducible refine Chg.setCell ?_ (fun l => absurd l (by dsimp only; omega)) _ | with_reducible refine Chg.trans ?_ (by assumption)))⟩
  · by_cases h0 : a = 0 ∧ b = 0
    · obtain ⟨hA, hB⟩ := h0
      have hI : isz a b = true := by simp [isz, hA, hB]
      have q1 : invE1 a b = 0 := by simp [invE1, ha, hI]
      have q2 : invE2 a b = 0 := by simp [invE2, ha, hI]
      have q3 : invEc a b = 7 := by simp [invEc, ha, hI]
      rw [q1, q2, q3]
      clear q1 q2 q3 hI
      go_enter Try.func30, Try.ntmps30
      go_wp2_with (go_at_call 55; refine (extOK_any _ _ _  ).mono ?_; rintro e w1 ⟨rfl, hk⟩; obtain ⟨hc, hf, hz⟩ := kcell hk (w.heap.size + 2) (by first | assumption | simp))
      exact bodyPost_ret (v := .tuple #[.agg #[.int .i64 0, .int .i64 0], .int .i64 7]) (by simp [results, Try.results30, go_sem, *]) rfl ⟨rfl, (by repeat (first | with_reducible exact Chg.refl _ _ | with_reducible refine Chg.alloc ?_ _ | with_reducible refine Chg.drewN ?_ _ | with_reducible refine Chg.drew ?_ | with_reducible refine Chg.setCell ?_ (fun l => absurd l (by dsimp only; omega)) _ | with_reducible refine Chg.trans ?_ (by assumption)))⟩
    · have a0 := fok_lo (eok_a ha)
      have a1 := fok_hi (eok_a ha)
      have b0 := fok_lo (eok_b ha)
      have b1 := fok_hi (eok_b ha)
      have hzz : isz a b = false := by simp [isz]; omega
      have q1 : invE1 a b = Fld.iA a b := by simp [invE1, ha, hzz]
      have q2 : invE2 a b = Fld.iB a b := by simp [invE2, ha, hzz]
      have q3 : invEc a b = 0 := by simp [invEc, ha, hzz]
      rw [q1, q2, q3]
      clear q1 q2 q3 hzz
      by_cases hA : a = 0
      · have hB : ¬ b = 0 := fun h => h0 ⟨hA, h⟩
        clear h0
        subst hA
        go_enter Try.func30, Try.ntmps30
        go_wp2_with (first | (go_at_call 55; refine (extOK_any _ _ _  ).mono ?_; rintro e w1 ⟨rfl, hk⟩; obtain ⟨hc, hf, hz⟩ := kcell hk (w.heap.size + 2) (by first | assumption | simp)) | (go_at_call 63; refine (extInv_any _ _ _  (by assumption) (by assumption) (by assumption) (by assumption)).mono ?_; rintro e w1 ⟨rfl, hk⟩; obtain ⟨hc, hf, hz⟩ := kcell hk (w.heap.size + 2) (by first | assumption | simp)))
        exact bodyPost_ret (v := .tuple #[.agg #[.int .i64 (Fld.iA 0 b), .int .i64 (Fld.iB 0 b)], .int .i64 0]) (by simp [results, Try.results30, go_sem, *]) rfl ⟨rfl, (by repeat (first | with_reducible exact Chg.refl _ _ | with_reducible refine Chg.alloc ?_ _ | with_reducible refine Chg.drewN ?_ _ | with_reducible refine Chg.drew ?_ | with_reducible refine Chg.setCell ?_ (fun l => absurd l (by dsimp only; omega)) _ | with_reducible refine Chg.trans ?_ (by assumption)))⟩
      · clear h0
        go_enter Try.func30, Try.ntmps30
        go_wp2_with (first | (go_at_call 55; refine (extOK_any _ _ _  ).mono ?_; rintro e w1 ⟨rfl, hk⟩; obtain ⟨hc, hf, hz⟩ := kcell hk (w.heap.size + 2) (by first | assumption | simp)) | (go_at_call 63; refine (extInv_any _ _ _  (by assumption) (by assumption) (by assumption) (by assumption)).mono ?_; rintro e w1 ⟨rfl, hk⟩; obtain ⟨hc, hf, hz⟩ := kcell hk (w.heap.size + 2) (by first | assumption | simp)))
        exact bodyPost_ret (v := .tuple #[.agg #[.int .i64 (Fld.iA a b), .int .i64 (Fld.iB a b)], .int .i64 0]) (by simp [results, Try.results30, go_sem, *]) rfl ⟨rfl, (by repeat (first | with_reducible exact Chg.refl _ _ | with_reducible refine Chg.alloc ?_ _ | with_reducible refine Chg.drewN ?_ _ | with_reducible refine Chg.drew ?_ | with_reducible refine Chg.setCell ?_ (fun l => absurd l (by dsimp only; omega)) _ | with_reducible refine Chg.trans ?_ (by assumption)))⟩

end Go.Proofs.Ytencdbocifpekaa
