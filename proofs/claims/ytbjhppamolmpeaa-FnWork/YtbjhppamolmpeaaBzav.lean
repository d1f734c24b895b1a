/- Several texts in one: What looks at settings answer, the program's and the model's: contracts. No condition but those that each theorem states. · How many bytes an opening has, the program's answer and the model's: contracts. No condition but those that each theorem states. -/
import Derived.Test.YtbjhppamolmpeaaBzab
import Derived.Test.YtbjhppamolmpeaaBzag
namespace Go.Proofs.Ytbjhppamolmpeaa
open Go.ChangeShapes Go.WideShapes Go.ChangeAt Go.RowKit
set_option linter.unusedVariables false
set_option maxRecDepth 100000
set_option linter.unusedSimpArgs false

/-- A setting's rate is in its bounds. -/
def rtB (r : Int) : Bool := decide (1 ≤ r ∧ r ≤ 3)
/-- A setting's numbers are in their bounds. -/
def stb (r q g : Int) : Bool := decide ((1 ≤ r ∧ r ≤ 3) ∧ (1 ≤ q ∧ q ≤ 8) ∧ (0 ≤ g ∧ g ≤ 12))
theorem stb_parts {r q g : Int} (h : stb r q g = true) : (1 ≤ r ∧ r ≤ 3) ∧ (1 ≤ q ∧ q ≤ 8) ∧ (0 ≤ g ∧ g ≤ 12) := of_decide_eq_true h

set_option maxHeartbeats 1000000 in
theorem sSettingOK_any (r q g : Int) (w : World) :
    Calls Try.prog 25 #[.agg #[.int .i64 r, .int .i64 q, .int .i64 g]] w fun e w' => e = .returned (.bool (stb r q g)) ∧ Chg nob w w' := by
  cases h1 : inW r 1 3
  · have H := hik (show stb r q g = false from decide_eq_false (fun x => by have y := of_decide_eq_false h1; exact y x.1))
    go_enter Try.func25, Try.ntmps25
    go_wp2_with (go_at_call 29; refine (l01In_any _ _ _ _).mono ?_; rintro e w' ⟨rfl, rfl⟩)
    go_ret
    exact ⟨ret_bool H.out.symm, (Chg.refl _ _).alloc _⟩
  · cases h2 : inW q 1 8
    · have H := hik (show stb r q g = false from decide_eq_false (fun x => by have y := of_decide_eq_false h2; exact y x.2.1))
      go_enter Try.func25, Try.ntmps25
      go_wp2_with (go_at_call 29; refine (l01In_any _ _ _ _).mono ?_; rintro e w' ⟨rfl, rfl⟩)
      go_ret
      exact ⟨ret_bool H.out.symm, (Chg.refl _ _).alloc _⟩
    · have H := hik (show stb r q g = inW g 0 12 from by
        have y1 := of_decide_eq_true h1
        have y2 := of_decide_eq_true h2
        unfold stb inW
        rw [decide_eq_decide]
        exact ⟨fun x => x.2.2, fun x => ⟨y1, y2, x⟩⟩)
      go_enter Try.func25, Try.ntmps25
      go_wp2_with (go_at_call 29; refine (l01In_any _ _ _ _).mono ?_; rintro e w' ⟨rfl, rfl⟩)
      go_ret
      exact ⟨ret_bool H.out.symm, (Chg.refl _ _).alloc _⟩

set_option maxHeartbeats 1000000 in
theorem isOpenRate_any (r : Int) (w : World) :
    Calls Try.prog 47 #[.int .i64 r] w fun e w' => e = .returned (.bool (rtB r)) ∧ w' = w := by
  by_cases h1 : 1 ≤ r
  · by_cases h2 : r ≤ 3
    · have H := hik (show rtB r = true from decide_eq_true ⟨h1, h2⟩)
      go_enter Try.func47, Try.ntmps47
      go_wp2
      go_ret
      exact ⟨ret_bool H.out.symm, rfl⟩
    · have H := hik (show rtB r = false from decide_eq_false (fun x => h2 x.2))
      go_enter Try.func47, Try.ntmps47
      go_wp2
      go_ret
      exact ⟨ret_bool H.out.symm, rfl⟩
  · have H := hik (show rtB r = false from decide_eq_false (fun x => h1 x.1))
    go_enter Try.func47, Try.ntmps47
    go_wp2
    go_ret
    exact ⟨ret_bool H.out.symm, rfl⟩

set_option maxHeartbeats 2000000 in
theorem settingOK_any (r q g : Int) (w : World) :
    Calls Try.prog 27 #[.agg #[.int .i64 r, .int .i64 q, .int .i64 g]] w fun e w' => e = .returned (.bool (stb r q g)) ∧ Chg nob w w' := by
  cases h1 : rtB r
  · have H := hik (show stb r q g = false from decide_eq_false (fun x => by have y := of_decide_eq_false h1; exact y x.1))
    go_enter Try.func27, Try.ntmps27
    go_wp2_with (go_at_call 47; refine (isOpenRate_any _ _).mono ?_; rintro e w' ⟨rfl, rfl⟩)
    go_ret
    exact ⟨ret_bool H.out.symm, (Chg.refl _ _).alloc _⟩
  · by_cases h2 : 1 ≤ q
    · by_cases h3 : q ≤ 8
      · by_cases h4 : 0 ≤ g
        · by_cases h5 : g ≤ 12
          · have H := hik (show stb r q g = true from decide_eq_true ⟨of_decide_eq_true h1, ⟨h2, h3⟩, h4, h5⟩)
            go_enter Try.func27, Try.ntmps27
            go_wp2_with (go_at_call 47; refine (isOpenRate_any _ _).mono ?_; rintro e w' ⟨rfl, rfl⟩)
            go_ret
            exact ⟨ret_bool H.out.symm, (Chg.refl _ _).alloc _⟩
          · have H := hik (show stb r q g = false from decide_eq_false (fun x => h5 x.2.2.2))
            go_enter Try.func27, Try.ntmps27
            go_wp2_with (go_at_call 47; refine (isOpenRate_any _ _).mono ?_; rintro e w' ⟨rfl, rfl⟩)
            go_ret
            exact ⟨ret_bool (by rw [H.out]; exact decide_eq_false (by omega)), (Chg.refl _ _).alloc _⟩
        · have H := hik (show stb r q g = false from decide_eq_false (fun x => h4 x.2.2.1))
          go_enter Try.func27, Try.ntmps27
          go_wp2_with (go_at_call 47; refine (isOpenRate_any _ _).mono ?_; rintro e w' ⟨rfl, rfl⟩)
          go_ret
          exact ⟨ret_bool H.out.symm, (Chg.refl _ _).alloc _⟩
      · have H := hik (show stb r q g = false from decide_eq_false (fun x => h3 x.2.1.2))
        go_enter Try.func27, Try.ntmps27
        go_wp2_with (go_at_call 47; refine (isOpenRate_any _ _).mono ?_; rintro e w' ⟨rfl, rfl⟩)
        go_ret
        exact ⟨ret_bool H.out.symm, (Chg.refl _ _).alloc _⟩
    · have H := hik (show stb r q g = false from decide_eq_false (fun x => h2 x.2.1.1))
      go_enter Try.func27, Try.ntmps27
      go_wp2_with (go_at_call 47; refine (isOpenRate_any _ _).mono ?_; rintro e w' ⟨rfl, rfl⟩)
      go_ret
      exact ⟨ret_bool H.out.symm, (Chg.refl _ _).alloc _⟩

set_option maxHeartbeats 1000000 in
theorem pathLength_any (r q g v k : Int) (w : World) (r0 : 0 ≤ r) (r1 : r ≤ 1000) (v0 : 0 ≤ v) (v1 : v ≤ 1000) (k0 : 0 ≤ k) (k1 : k ≤ 1000) :
    Calls Try.prog 72 #[.agg #[.int .i64 r, .int .i64 q, .int .i64 g], .int .i64 v, .int .i64 k] w fun e w' => e = .returned (.int .i64 (v + r - 1 - k)) ∧ w' = w.alloc (.cells #[.int .i64 r, .int .i64 q, .int .i64 g] 26) := by
  go_enter Try.func72, Try.ntmps72
  go_wp2
  go_ret
  exact ⟨rfl, rfl⟩

end Go.Proofs.Ytbjhppamolmpeaa

namespace Go.Proofs.Ytbjhppamolmpeaa
open Go.ChangeShapes Go.WideShapes Go.ChangeAt Go.RowKit
set_option linter.unusedVariables false
set_option maxRecDepth 100000
set_option linter.unusedSimpArgs false

/-- Hashes of the first k paths of a query. -/
def hpl (v r : Int) : Nat → Int
  | 0 => 0
  | k + 1 => hpl v r k + (v + r - 1 - (k : Int))
theorem hpl_bd (v r : Int) (hv : 1 ≤ v) (hv2 : v ≤ 6) (hr : 1 ≤ r) (hr2 : r ≤ 3) : ∀ k : Nat, (k : Int) ≤ v → 0 ≤ hpl v r k ∧ hpl v r k ≤ 8 * (k : Int)
  | 0, _ => by simp [hpl]
  | k + 1, h => by
    have := hpl_bd v r hv hv2 hr hr2 k (by omega)
    simp only [hpl]
    omega


end Go.Proofs.Ytbjhppamolmpeaa
