/- What the laws' helpers on slices of ints do: toIntS copies, eqIntS finds like rows alike, markIntS numbers a row, heldIntS finds it numbered. Conditions: rows that can be read (markIntS: a row of the call's own), lengths of at most 2 to the 40. -/
import Derived.Test.YtppiilbcnkphbaaDoorRows
import Derived.WalkKit
import Derived.ProofKit
import Derived.OpenShut
import Derived.RegionTactic
import Derived.ChangeAlike
import Derived.BigRegion
import Derived.Deep.QuietTactic
import Derived.BigQuiet
import Derived.Test.YtppiilbcnkphbaaDoorMem
namespace Go.Proofs.YtppiilbcnkphbaaDoor
open Go.ChangeShapes Go.WideShapes Go.ChangeAt Go.RowKit

theorem hid {p : Prop} (h : p) : Hid p := h
theorem infoInt : (Tryd.prog.info? 3).map (fun i => (i.zero, i.size, i.bytes)) = some (some (.int .i64 0), 1, 8) := by kernel_rfl
/-- Ints as values. -/
def iv (f : Nat → Int) (i : Nat) : Value := .int .i64 (f i)

set_option maxHeartbeats 1000000 in
theorem eqIntS_any (c d : Option Addr) (n m cap cap' : Nat) (f g : Nat → Int) (w : World) (h : Hid (RowV w c n (iv f))) (h' : Hid (RowV w d m (iv g))) (hm : n = m) (he : ∀ i, i < n → f i = g i) (hn : n ≤ 1099511627776) :
    Calls Tryd.prog 7 #[.slice c n cap, .slice d m cap'] w fun e w' => e = .returned (.bool true) ∧ Chg nob w w' := by
  subst hm
  have HE := hid he
  clear he
  go_enter Tryd.func7, Tryd.ntmps7
  go_wp2
  go_loopw [5] (fun i W => ∃ k : Nat, k ≤ n ∧ i = .int .i64 k ∧ Hid (Chg nob w W)) (fun i _ => n - (intOf i).toNat)
  case atStart => exact ⟨0, Nat.zero_le _, rfl, hid (Chg.refl _ _)⟩
  case round =>
    obtain ⟨k, hk, rfl, HC⟩ := hrel
    by_cases hlt : k < n
    · obtain ⟨xb, xo, rfl, hxb, hcell⟩ := (h.out.keep HC.out) k hlt
      have hx : _ = some (Value.int .i64 (f k)) := hcell
      obtain ⟨yb, yo, rfl, hyb, hcell'⟩ := (h'.out.keep HC.out) k hlt
      have hy : _ = some (Value.int .i64 (g k)) := hcell'
      rw [← HE.out k hlt] at hy
      clear hcell hcell'
      go_wp2
      go_quiet (fail)
      go_wp2
      go_roundw
      case rel => exact ⟨k + 1, by omega, by go_num, hid (HC.out.drewN _)⟩
      case measure => simp [intOf]; omega
    · go_wp2
      go_ret
      exact ⟨rfl, HC.out⟩

set_option maxHeartbeats 1000000 in
theorem markIntS_none (c : Option Addr) (cap : Nat) (w : World) :
    Calls Tryd.prog 8 #[.slice c 0 cap, .int .i64 1] w fun e w' => e = .returned (.int .i64 1) ∧ Chg nob w w' := by
  go_enter Tryd.func8, Tryd.ntmps8
  go_wp2
  go_loopw [1, 5] (fun v i W => i = .int .i64 0 ∧ v = .int .i64 1 ∧ Hid (Chg nob w W)) (fun _ _ _ => 0)
  case atStart => exact ⟨rfl, rfl, hid (Chg.refl _ _)⟩
  case round =>
    obtain ⟨rfl, rfl, HC⟩ := hrel
    go_wp2
    go_ret
    exact ⟨rfl, HC.out⟩

set_option maxHeartbeats 1000000 in
theorem heldIntS_any (c : Option Addr) (n cap : Nat) (w : World) (h : Hid (RowV w c n (iv (fun i => 1 + i)))) (hn : n ≤ 1099511627776) :
    Calls Tryd.prog 9 #[.slice c n cap, .int .i64 1] w fun e w' => e = .returned (.int .i64 (1 + n)) ∧ Chg nob w w' := by
  go_enter Tryd.func9, Tryd.ntmps9
  go_wp2
  go_loopw [1, 5] (fun v i W => ∃ k : Nat, k ≤ n ∧ i = .int .i64 k ∧ v = .int .i64 (1 + k) ∧ Hid (Chg nob w W)) (fun _ i _ => n - (intOf i).toNat)
  case atStart => exact ⟨0, Nat.zero_le _, rfl, rfl, hid (Chg.refl _ _)⟩
  case round =>
    obtain ⟨k, hk, rfl, rfl, HC⟩ := hrel
    by_cases hlt : k < n
    · obtain ⟨xb, xo, rfl, hxb, hcell⟩ := (h.out.keep HC.out) k hlt
      have hx : _ = some (Value.int .i64 (1 + (k : Int))) := hcell
      clear hcell
      go_wp2
      go_roundw
      case rel => exact ⟨k + 1, by omega, by go_num, by go_num, HC⟩
      case measure => simp [intOf]; omega
    · obtain rfl : k = n := by omega
      go_wp2
      go_ret
      exact ⟨rfl, HC.out⟩

end Go.Proofs.YtppiilbcnkphbaaDoor
