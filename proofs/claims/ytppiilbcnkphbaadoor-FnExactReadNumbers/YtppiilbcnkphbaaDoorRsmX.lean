/- The program's sums of rows: contracts. -/
import Derived.Test.YtppiilbcnkphbaaDoorGrdT
import Derived.Test.YtppiilbcnkphbaaDoorRsmM
import Derived.IntWalk
import Derived.Deep.DeepCutAuto
import Derived.Test.YtppiilbcnkphbaaDoorRegL
import Derived.Test.YtppiilbcnkphbaaDoorIntRow
namespace Go.Proofs.YtppiilbcnkphbaaDoor
open Go.ChangeShapes Go.WideShapes Go.ChangeAt Go.RowKit
set_option linter.unusedVariables false
set_option maxRecDepth 100000
set_option linter.unusedSimpArgs false

set_option maxHeartbeats 1000000 in
theorem fieldOK_f (x : Int) (w : World) : Calls Tryd.prog 37 #[.int .i64 x] w fun e w' => e = .returned (.bool (fdb x)) ∧ w' = w := by
  have H := hik (show fdb x = (decide (0 ≤ x) && decide (x < 2130706433)) by simp [fdb])
  by_cases h0 : 0 ≤ x
  · go_enter Tryd.func37, Tryd.ntmps37
    go_wp2
    go_ret
    exact ⟨ret_bool (by rw [H.out]; simp [h0]), rfl⟩
  · go_enter Tryd.func37, Tryd.ntmps37
    go_wp2
    go_ret
    exact ⟨ret_bool (by rw [H.out]; simp; omega), rfl⟩

set_option maxHeartbeats 1000000 in
theorem numsOK_any (c : Option Addr) (n cap : Nat) (f : Nat → Int) (w : World) (h : Hid (RowV w c n (iv f))) (hn : n ≤ 1099511627776) : Calls Tryd.prog 29 #[.slice c n cap] w fun e w' => e = .returned (.bool (fds n f)) ∧ w' = w := by
  go_enter Tryd.func29, Tryd.ntmps29
  go_wp2
  go_loopw [7] (fun s wr => ∃ k : Nat, k ≤ n ∧ s = .int .i64 k ∧ wr = w ∧ Hid (∀ i, i < k → fdb (f i) = true)) (fun s _ => n - (intOf s).toNat)
  case atStart => exact ⟨0, Nat.zero_le _, rfl, rfl, hik (fun i hi => by omega)⟩
  case round =>
    obtain ⟨k, hk, rfl, rfl, HW⟩ := hrel
    by_cases hlt : k < n
    · obtain ⟨xb, xo, rfl, hxb, hx⟩ := h.out k hlt
      have hx' : _ = some (.int .i64 (f k) : Value) := hx
      have hkn : ((k : Nat) : Int) < n := by omega
      have hcon := fieldOK_f (f k)
      cases hb : fdb (f k) with
      | true =>
        have HB := hik hb
        rw [hb] at hcon
        clear hx hb
        generalize f k = y at hx' hcon
        go_wp2_with (go_at_call 37; refine (hcon _).mono ?_; rintro e w' ⟨rfl, rfl⟩)
        go_roundw
        case rel =>
          refine ⟨k + 1, by omega, by go_num, (by first | rfl | trivial), hik (fun i hi => ?_)⟩
          by_cases e : i = k
          · subst e; exact HB.out
          · exact HW.out i (by omega)
        case measure => simp [intOf]; omega
      | false =>
        have HB := hik (fds_no hlt hb)
        rw [hb] at hcon
        clear hx hb
        generalize f k = y at hx' hcon
        go_wp2_with (go_at_call 37; refine (hcon _).mono ?_; rintro e w' ⟨rfl, rfl⟩)
        go_ret
        exact ⟨ret_bool HB.out.symm, rfl⟩
    · obtain rfl : k = n := by omega
      have HB := hik (fds_all HW.out)
      go_wp2
      go_ret
      exact ⟨ret_bool HB.out.symm, rfl⟩


end Go.Proofs.YtppiilbcnkphbaaDoor
