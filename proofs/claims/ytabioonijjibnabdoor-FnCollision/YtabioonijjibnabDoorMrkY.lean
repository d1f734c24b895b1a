/- The shape of the answer of ExtractCollision. No program is walked here. -/
import Derived.Test.YtabioonijjibnabDoorMrkX
namespace Go.Proofs.YtabioonijjibnabDoor
theorem exd_shape (u v : Nat → ByteArray) (o : Option Nat) : ∃ (x y : ByteArray) (c : Int), exd u v o = .tuple #[.agg #[.string x, .string y], .int .i64 c] := by
  cases o with
  | none => exact ⟨_, _, _, rfl⟩
  | some k => exact ⟨_, _, _, rfl⟩
theorem exv_shape (r : ByteArray) (n i : Int) (ta : ByteArray) (da : Nat) (A : Nat → ByteArray) (tb : ByteArray) (db : Nat) (B : Nat → ByteArray) : ∃ (x y : ByteArray) (c : Int), exv r n i ta da A tb db B = .tuple #[.agg #[.string x, .string y], .int .i64 c] := by
  unfold exv
  repeat' split
  all_goals first | exact ⟨_, _, _, rfl⟩ | exact exd_shape _ _ _
end Go.Proofs.YtabioonijjibnabDoor
