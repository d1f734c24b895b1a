/- Several texts in one: The model's sums of rows: contracts. · Three bytes in a row: words. No condition but those that each theorem states. -/
import Derived.Test.YtkpohajmcngjcaaGreatDoorBzad
import Derived.Test.YtkpohajmcngjcaaGreatDoorBzah
import Derived.IntWalk
import Derived.Deep.DeepCutAuto
import Derived.Test.YtkpohajmcngjcaaGreatDoorBzao
import Derived.Test.YtkpohajmcngjcaaGreatDoorBzat
import Derived.Test.YtkpohajmcngjcaaGreatDoorBzaf
import Derived.Test.YtkpohajmcngjcaaGreatDoorBzaa
import Derived.Test.YtkpohajmcngjcaaGreatDoorBzan
namespace Go.Proofs.YtkpohajmcngjcaaGreatDoor
open Go.ChangeShapes Go.WideShapes Go.ChangeAt Go.RowKit
set_option linter.unusedVariables false
set_option maxRecDepth 100000
set_option linter.unusedSimpArgs false

theorem sFieldOK_f (x : Int) (w : World) : Calls Tryz.prog 101 #[.int .i64 x] w fun e w' => e = .returned (.bool (fdb x)) ∧ w' = w :=
  (sFieldOK_any x w).mono (fun e w' h => h)

set_option maxHeartbeats 1000000 in
theorem sFields_any (c : Option Addr) (n cap : Nat) (f : Nat → Int) (w : World) (h : Hid (RowV w c n (iv f))) (hn : n ≤ 1099511627776) : Calls Tryz.prog 65 #[.slice c n cap] w fun e w' => e = .returned (.bool (fds n f)) ∧ w' = w := by
  go_enter Tryz.func65, Tryz.ntmps65
  go_wp2
  go_loopw [3] (fun s wr => ∃ k : Nat, k ≤ n ∧ s = .int .i64 k ∧ wr = w ∧ Hid (∀ i, i < k → fdb (f i) = true)) (fun s _ => n - (intOf s).toNat)
  case atStart => exact ⟨0, Nat.zero_le _, rfl, rfl, hik (fun i hi => by omega)⟩
  case round =>
    obtain ⟨k, hk, rfl, rfl, HW⟩ := hrel
    by_cases hlt : k < n
    · obtain ⟨xb, xo, rfl, hxb, hx⟩ := h.out k hlt
      have hx' : _ = some (.int .i64 (f k) : Value) := hx
      have hkn : ((k : Nat) : Int) < n := by omega
      have hcon := sFieldOK_f (f k)
      cases hb : fdb (f k) with
      | true =>
        have HB := hik hb
        rw [hb] at hcon
        clear hx hb
        generalize f k = y at hx' hcon
        go_wp2_with (go_at_call 101; refine (hcon _).mono ?_; rintro e w' ⟨rfl, rfl⟩)
        go_roundw
        case rel =>
          refine ⟨k + 1, by omega, by go_num, (by first | rfl | trivial), hik (fun i hi => ?_)⟩
          by_cases e : i = k
          · subst e; exact HB.out
          · exact HW.out i (by omega)
        case measure => simp [intOf]; omega
      | false =>
        have HB := hik (fds_no hlt hb)
        rw [hb] at hcon
        clear hx hb
        generalize f k = y at hx' hcon
        go_wp2_with (go_at_call 101; refine (hcon _).mono ?_; rintro e w' ⟨rfl, rfl⟩)
        go_ret
        exact ⟨ret_bool HB.out.symm, rfl⟩
    · obtain rfl : k = n := by omega
      have HB := hik (fds_all HW.out)
      go_wp2
      go_ret
      exact ⟨ret_bool HB.out.symm, rfl⟩


end Go.Proofs.YtkpohajmcngjcaaGreatDoor

namespace Go.Proofs.YtkpohajmcngjcaaGreatDoor
open Go.ChangeShapes Go.WideShapes Go.ChangeAt Go.RowKit
set_option linter.unusedVariables false
theorem by3_row (W : World) (r n g : Int) (t : TypeId) : RowV (W.alloc (.cells #[.int .u8 r, .int .u8 n, .int .u8 g] t)) (some ⟨W.heap.size, 0, none⟩) 3 (bb (fun i => if i = 0 then r else if i = 1 then n else g)) := fun i hi => by
  refine ⟨W.heap.size, 0, rfl, by simp, ?_⟩
  rcases (show i = 0 ∨ i = 1 ∨ i = 2 by omega) with rfl | rfl | rfl <;> simp [bb]
/-- What Start answers. -/
def StAns (w : World) (code : Int) (ls : Nat) (fs gs : Nat → Int) (at' : Int) (st : ByteArray) (e : Ending) (w' : World) : Prop :=
  (code = 0 → SCAns w 0 ls fs gs at' st 0 e w') ∧ (code ≠ 0 → e = .returned (.tuple #[.agg #[.slice none 0 0, .int .i64 0, .string ⟨#[]⟩, .int .i64 0], .int .i64 code]) ∧ Chg nob w w')

end Go.Proofs.YtkpohajmcngjcaaGreatDoor
