/- What the greater field's exported functions answer, whatever the numbers: contracts. No condition but those that are stated. -/
import Derived.Test.YtabioonijjibnacExtW
namespace Go.Proofs.Ytabioonijjibnac
open Go.ChangeShapes Go.WideShapes Go.ChangeAt Go.RowKit
set_option linter.unusedVariables false
set_option linter.unusedSimpArgs false

/-- What is answered of two elements. -/
def eb (a b c d v : Int) : Int := if eok a b && eok c d then v else 0
def ebad (a b c d : Int) : Int := if eok a b && eok c d then 0 else 1
/-- What is answered of one. -/
def e1 (a b v : Int) : Int := if eok a b then v else 0
def e1bad (a b : Int) : Int := if eok a b then 0 else 1
/-- Of a power. -/
def powE1 (a b n : Int) : Int := if eok a b then (if n < 0 then 0 else (Fld.ep (a, b) n.toNat).1) else 0
def powE2 (a b n : Int) : Int := if eok a b then (if n < 0 then 0 else (Fld.ep (a, b) n.toNat).2) else 0
def powEc (a b n : Int) : Int := if eok a b then (if n < 0 then 4 else 0) else 1
/-- The element is 0. -/
def isz (a b : Int) : Bool := a == 0 && b == 0
def invE1 (a b : Int) : Int := if eok a b then (if isz a b then 0 else Fld.iA a b) else 0
def invE2 (a b : Int) : Int := if eok a b then (if isz a b then 0 else Fld.iB a b) else 0
def invEc (a b : Int) : Int := if eok a b then (if isz a b then 7 else 0) else 1

set_option maxHeartbeats 1000000 in
theorem extAdd_any (a b c d : Int) (w : World) :
    Calls Try.prog 11 #[.agg #[.int .i64 a, .int .i64 b], .agg #[.int .i64 c, .int .i64 d]] w fun e w' => e = .returned (.tuple #[.agg #[.int .i64 (eb a b c d ((a + c) % 2130706433)), .int .i64 (eb a b c d ((b + d) % 2130706433))], .int .i64 (ebad a b c d)]) ∧ Chg nob w w' := by
  cases ha : eok a b
  · go_enter Try.func11, Try.ntmps11
    go_wp2_with (go_at_call 29; refine (extOK_any _ _ _  ).mono ?_; rintro e w1 ⟨rfl, hk⟩; obtain ⟨hc, hf, hz⟩ := kcell hk (w.heap.size + 3) (by first | assumption | simp))
    exact bodyPost_ret (v := .tuple #[.agg #[.int .i64 (eb a b c d ((a + c) % 2130706433)), .int .i64 (eb a b c d ((b + d) % 2130706433))], .int .i64 (ebad a b c d)]) (by simp [results, Try.results11, go_sem, *, eb, ebad]) rfl ⟨rfl, (by repeat (first | with_reducible exact Chg.refl _ _ | with_reducible refine Chg.alloc ?_ _ | with_reducible refine Chg.drewN ?_ _ | with_reducible refine Chg.drew ?_ | with_reducible refine Chg.setCell ?_ (fun l => absurd l (by dsimp only; omega)) _ | with_reducible refine Chg.trans ?_ (by assumption)))⟩
  · cases hb : eok c d
    · go_enter Try.func11, Try.ntmps11
      go_wp2_with (go_at_call 29; refine (extOK_any _ _ _  ).mono ?_; rintro e w1 ⟨rfl, hk⟩; obtain ⟨hc, hf, hz⟩ := kcell hk (w.heap.size + 3) (by first | assumption | simp))
      exact bodyPost_ret (v := .tuple #[.agg #[.int .i64 (eb a b c d ((a + c) % 2130706433)), .int .i64 (eb a b c d ((b + d) % 2130706433))], .int .i64 (ebad a b c d)]) (by simp [results, Try.results11, go_sem, *, eb, ebad]) rfl ⟨rfl, (by repeat (first | with_reducible exact Chg.refl _ _ | with_reducible refine Chg.alloc ?_ _ | with_reducible refine Chg.drewN ?_ _ | with_reducible refine Chg.drew ?_ | with_reducible refine Chg.setCell ?_ (fun l => absurd l (by dsimp only; omega)) _ | with_reducible refine Chg.trans ?_ (by assumption)))⟩
    · skip
      have a0 := fok_lo (eok_a ha)
      have a1 := fok_hi (eok_a ha)
      have b0 := fok_lo (eok_b ha)
      have b1 := fok_hi (eok_b ha)
      have c0 := fok_lo (eok_a hb)
      have c1 := fok_hi (eok_a hb)
      have d0 := fok_lo (eok_b hb)
      have d1 := fok_hi (eok_b hb)
      go_enter Try.func11, Try.ntmps11
      go_wp2_with (first | (go_at_call 29; refine (extOK_any _ _ _  ).mono ?_; rintro e w1 ⟨rfl, hk⟩; obtain ⟨hc, hf, hz⟩ := kcell hk (w.heap.size + 3) (by first | assumption | simp)) | (go_at_call 30; refine (plus_any _ _ _ _ _  (by assumption) (by assumption) (by assumption) (by assumption) (by assumption) (by assumption) (by assumption) (by assumption)).mono ?_; rintro e w1 ⟨rfl, hk⟩; obtain ⟨hc, hf, hz⟩ := kcell hk (w.heap.size + 3) (by first | assumption | simp)))
      exact bodyPost_ret (v := .tuple #[.agg #[.int .i64 (eb a b c d ((a + c) % 2130706433)), .int .i64 (eb a b c d ((b + d) % 2130706433))], .int .i64 (ebad a b c d)]) (by simp [results, Try.results11, go_sem, *, eb, ebad]) rfl ⟨rfl, (by repeat (first | with_reducible exact Chg.refl _ _ | with_reducible refine Chg.alloc ?_ _ | with_reducible refine Chg.drewN ?_ _ | with_reducible refine Chg.drew ?_ | with_reducible refine Chg.setCell ?_ (fun l => absurd l (by dsimp only; omega)) _ | with_reducible refine Chg.trans ?_ (by assumption)))⟩

set_option maxHeartbeats 1000000 in
theorem extMul_any (a b c d : Int) (w : World) :
    Calls Try.prog 21 #[.agg #[.int .i64 a, .int .i64 b], .agg #[.int .i64 c, .int .i64 d]] w fun e w' => e = .returned (.tuple #[.agg #[.int .i64 (eb a b c d (Fld.mA a b c d)), .int .i64 (eb a b c d (Fld.mB a b c d))], .int .i64 (ebad a b c d)]) ∧ Chg nob w w' := by
  cases ha : eok a b
  · go_enter Try.func21, Try.ntmps21
    go_wp2_with (go_at_call 29; refine (extOK_any _ _ _  ).mono ?_; rintro e w1 ⟨rfl, hk⟩; obtain ⟨hc, hf, hz⟩ := kcell hk (w.heap.size + 3) (by first | assumption | simp))
    exact bodyPost_ret (v := .tuple #[.agg #[.int .i64 (eb a b c d (Fld.mA a b c d)), .int .i64 (eb a b c d (Fld.mB a b c d))], .int .i64 (ebad a b c d)]) (by simp [results, Try.results21, go_sem, *, eb, ebad]) rfl ⟨rfl, (by repeat (first | with_reducible exact Chg.refl _ _ | with_reducible refine Chg.alloc ?_ _ | with_reducible refine Chg.drewN ?_ _ | with_reducible refine Chg.drew ?_ | with_reducible refine Chg.setCell ?_ (fun l => absurd l (by dsimp only; omega)) _ | with_reducible refine Chg.trans ?_ (by assumption)))⟩
  · cases hb : eok c d
    · go_enter Try.func21, Try.ntmps21
      go_wp2_with (go_at_call 29; refine (extOK_any _ _ _  ).mono ?_; rintro e w1 ⟨rfl, hk⟩; obtain ⟨hc, hf, hz⟩ := kcell hk (w.heap.size + 3) (by first | assumption | simp))
      exact bodyPost_ret (v := .tuple #[.agg #[.int .i64 (eb a b c d (Fld.mA a b c d)), .int .i64 (eb a b c d (Fld.mB a b c d))], .int .i64 (ebad a b c d)]) (by simp [results, Try.results21, go_sem, *, eb, ebad]) rfl ⟨rfl, (by repeat (first | with_reducible exact Chg.refl _ _ | with_reducible refine Chg.alloc ?_ _ | with_reducible refine Chg.drewN ?_ _ | with_reducible refine Chg.drew ?_ | with_reducible refine Chg.setCell ?_ (fun l => absurd l (by dsimp only; omega)) _ | with_reducible refine Chg.trans ?_ (by assumption)))⟩
    · skip
      have a0 := fok_lo (eok_a ha)
      have a1 := fok_hi (eok_a ha)
      have b0 := fok_lo (eok_b ha)
      have b1 := fok_hi (eok_b ha)
      have c0 := fok_lo (eok_a hb)
      have c1 := fok_hi (eok_a hb)
      have d0 := fok_lo (eok_b hb)
      have d1 := fok_hi (eok_b hb)
      go_enter Try.func21, Try.ntmps21
      go_wp2_with (first | (go_at_call 29; refine (extOK_any _ _ _  ).mono ?_; rintro e w1 ⟨rfl, hk⟩; obtain ⟨hc, hf, hz⟩ := kcell hk (w.heap.size + 3) (by first | assumption | simp)) | (go_at_call 31; refine (times_any _ _ _ _ _  (by assumption) (by assumption) (by assumption) (by assumption) (by assumption) (by assumption) (by assumption) (by assumption)).mono ?_; rintro e w1 ⟨rfl, hk⟩; obtain ⟨hc, hf, hz⟩ := kcell hk (w.heap.size + 3) (by first | assumption | simp)))
      exact bodyPost_ret (v := .tuple #[.agg #[.int .i64 (eb a b c d (Fld.mA a b c d)), .int .i64 (eb a b c d (Fld.mB a b c d))], .int .i64 (ebad a b c d)]) (by simp [results, Try.results21, go_sem, *, eb, ebad]) rfl ⟨rfl, (by repeat (first | with_reducible exact Chg.refl _ _ | with_reducible refine Chg.alloc ?_ _ | with_reducible refine Chg.drewN ?_ _ | with_reducible refine Chg.drew ?_ | with_reducible refine Chg.setCell ?_ (fun l => absurd l (by dsimp only; omega)) _ | with_reducible refine Chg.trans ?_ (by assumption)))⟩

end Go.Proofs.Ytabioonijjibnac
