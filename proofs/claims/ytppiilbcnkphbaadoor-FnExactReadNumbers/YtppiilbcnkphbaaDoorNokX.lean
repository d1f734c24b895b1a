/- The program's numbersOK: a contract. -/
import Derived.Test.YtppiilbcnkphbaaDoorWalks
import Derived.Test.YtppiilbcnkphbaaDoorIntRow
namespace Go.Proofs.YtppiilbcnkphbaaDoor
open Go.ChangeShapes Go.WideShapes Go.ChangeAt Go.RowKit
set_option linter.unusedVariables false
set_option maxRecDepth 100000
set_option linter.unusedSimpArgs false

/-- All of n numbers are below the prime. -/
def fds9 (n : Nat) (f : Nat → Int) : Bool := (List.range n).all fun i => fok (f i)
theorem fds9_all {n : Nat} {f : Nat → Int} (h : ∀ i, i < n → fok (f i) = true) : fds9 n f = true := List.all_eq_true.2 (fun i hi => h i (by simpa using hi))
theorem fds9_no {n k : Nat} {f : Nat → Int} (hk : k < n) (h : fok (f k) = false) : fds9 n f = false := by
  rw [fds9, List.all_eq_false]
  exact ⟨k, by simpa using hk, by rw [h]; simp⟩
set_option maxHeartbeats 1000000 in
theorem numsOK9_any (c : Option Addr) (n cap : Nat) (f : Nat → Int) (w : World) (h : Hid (RowV w c n (iv f))) (hn : n ≤ 1099511627776) : Calls Tryd.prog 29 #[.slice c n cap] w fun e w' => e = .returned (.bool (fds9 n f)) ∧ w' = w := by
  go_enter Tryd.func29, Tryd.ntmps29
  go_wp2
  go_loopw [7] (fun s wr => ∃ k : Nat, k ≤ n ∧ s = .int .i64 k ∧ wr = w ∧ Hid (∀ i, i < k → fok (f i) = true)) (fun s _ => n - (intOf s).toNat)
  case atStart => exact ⟨0, Nat.zero_le _, rfl, rfl, hik (fun i hi => by omega)⟩
  case round =>
    obtain ⟨k, hk, rfl, rfl, HW⟩ := hrel
    by_cases hlt : k < n
    · obtain ⟨xb, xo, rfl, hxb, hx⟩ := h.out k hlt
      have hx' : _ = some (.int .i64 (f k) : Value) := hx
      have hkn : ((k : Nat) : Int) < n := by omega
      have hcon := fieldOK_any (f k)
      cases hb : fok (f k) with
      | true =>
        have HB := hik hb
        rw [hb] at hcon
        clear hx hb
        generalize f k = y at hx' hcon
        go_wp2_with (go_at_call 37; refine (hcon _).mono ?_; rintro e w' ⟨rfl, rfl⟩)
        go_roundw
        case rel =>
          refine ⟨k + 1, by omega, by go_num, (by first | rfl | trivial), hik (fun i hi => ?_)⟩
          by_cases e : i = k
          · subst e; exact HB.out
          · exact HW.out i (by omega)
        case measure => simp [intOf]; omega
      | false =>
        have HB := hik (fds9_no hlt hb)
        rw [hb] at hcon
        clear hx hb
        generalize f k = y at hx' hcon
        go_wp2_with (go_at_call 37; refine (hcon _).mono ?_; rintro e w' ⟨rfl, rfl⟩)
        go_ret
        exact ⟨ret_bool HB.out.symm, rfl⟩
    · obtain rfl : k = n := by omega
      have HB := hik (fds9_all HW.out)
      go_wp2
      go_ret
      exact ⟨ret_bool HB.out.symm, rfl⟩

end Go.Proofs.YtppiilbcnkphbaaDoor
