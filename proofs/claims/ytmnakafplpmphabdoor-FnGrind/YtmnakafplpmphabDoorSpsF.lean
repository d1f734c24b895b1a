/- What the model makes of eight bytes: a contract. Condition: a text of at least eight bytes. -/
import Derived.Test.YtmnakafplpmphabDoorKecZ
namespace Go.Proofs.YtmnakafplpmphabDoor
open Go.ChangeShapes Go.WideShapes Go.ChangeAt Go.RowKit
set_option linter.unusedVariables false
set_option maxRecDepth 100000
set_option linter.unusedSimpArgs false

/-- The number of the first k bytes, modulo the prime. -/
def fl8 (s : ByteArray) : Nat → Int
  | 0 => 0
  | k + 1 => (fl8 s k * 256 + zs s k) % 2130706433
theorem fl8_in (s : ByteArray) (k : Nat) : 0 ≤ fl8 s k ∧ fl8 s k < 2130706433 := by
  cases k with
  | zero => exact ⟨Int.le_refl _, show (0 : Int) < 2130706433 by omega⟩
  | succ k => unfold fl8; omega

set_option maxHeartbeats 1000000 in
theorem sField_any (s : ByteArray) (w : World) (h : 8 ≤ s.size) (hm : (s.size : Int) ≤ 9223372036854775807) :
    Calls Tryd.prog 132 #[.string s] w fun e w' => e = .returned (.int .i64 (fl8 s 8)) ∧ w = w' := by
  go_enter Tryd.func132, Tryd.ntmps132
  go_wp2
  go_loop [3, 4] (fun v i => ∃ (k : Nat) (z : Int), k ≤ 8 ∧ i = .int .i64 k ∧ v = .int .i64 z ∧ Hid (z = fl8 s k)) (fun _ i => 8 - (intOf i).toNat)
  case atStart => exact ⟨0, 0, by omega, rfl, rfl, hik rfl⟩
  case round =>
    obtain ⟨k, z, hk, rfl, rfl, HZ⟩ := hrel
    by_cases hlt : k < 8
    · have hlt' : (k : Int) < 8 := by omega
      have hks : k < s.size := by omega
      have hks' : (k : Int) < (s.size : Int) := by omega
      have z1 := zs_at s k hks
      have zl := zs_lo s k
      have zh := zs_hi s k
      have f0 := fl8_in s k
      rw [← HZ.out] at f0
      have f1 := f0.1
      have f2 := f0.2
      have v1 : (z * 256 + zs s k).tmod 2130706433 = (z * 256 + zs s k) % 2130706433 := Int.tmod_eq_emod_of_nonneg (by omega)
      have HN := hik (show (z * 256 + zs s k) % 2130706433 = fl8 s (k + 1) by rw [HZ.out]; rfl)
      clear f0
      go_wp2
      go_round
      case rel => exact ⟨k + 1, _, by omega, by go_num, rfl, HN⟩
      case measure => simp [intOf]; omega
    · obtain rfl : k = 8 := by omega
      go_wp2
      go_ret
      exact ⟨by rw [HZ.out]; rfl, rfl⟩
end Go.Proofs.YtmnakafplpmphabDoor
