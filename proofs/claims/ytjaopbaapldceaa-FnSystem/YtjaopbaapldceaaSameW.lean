/- The laws' sameInts finds like rows alike. Conditions: rows that can be read, of one length of at most 2 to the 40. -/
import Derived.Test.YtjaopbaapldceaaBzat
namespace Go.Proofs.Ytjaopbaapldceaa
open Go.ChangeShapes Go.WideShapes Go.ChangeAt Go.RowKit

set_option maxHeartbeats 1000000 in
theorem sameInts_any (c d : Option Addr) (n m cap cap' : Nat) (f g : Nat → Int) (w : World) (h : Hid (RowV w c n (iv f))) (h' : Hid (RowV w d m (iv g))) (hm : n = m) (he : ∀ i, i < n → f i = g i) (hn : n ≤ 1099511627776) :
    Calls Try.prog 9 #[.slice c n cap, .slice d m cap'] w fun e w' => e = .returned (.bool true) ∧ ∃ q, w' = w.drewN q := by
  subst hm
  have HE := hid he
  clear he
  go_enter Try.func9, Try.ntmps9
  go_wp2
  go_loopw [5] (fun i W => ∃ k : Nat, k ≤ n ∧ i = .int .i64 k ∧ Hid (∃ q, W = w.drewN q)) (fun i _ => n - (intOf i).toNat)
  case atStart => exact ⟨0, Nat.zero_le _, rfl, hid ⟨0, rfl⟩⟩
  case round =>
    obtain ⟨k, hk, rfl, HC⟩ := hrel
    obtain ⟨q, rfl⟩ := HC.out
    clear HC
    by_cases hlt : k < n
    · obtain ⟨xb, xo, rfl, hxb, hcell⟩ := h.out k hlt
      have hx : w.cell? ⟨xb, xo + k, none⟩ = some (Value.int .i64 (f k)) := hcell
      obtain ⟨yb, yo, rfl, hyb, hcell'⟩ := h'.out k hlt
      have hy : w.cell? ⟨yb, yo + k, none⟩ = some (Value.int .i64 (g k)) := hcell'
      rw [← HE.out k hlt] at hy
      clear hcell hcell'
      go_wp2
      go_quiet (fail)
      go_wp2
      go_roundw
      case rel => exact ⟨k + 1, by omega, by go_num, hid ⟨_, rfl⟩⟩
      case measure => simp [intOf]; omega
    · go_wp2
      go_ret
      exact ⟨rfl, q, rfl⟩

end Go.Proofs.Ytjaopbaapldceaa
