/- Several texts in one: The bytes of an opening, one list: words. No condition but those that each theorem states. · Bytes of a call's own: that they can be read, and marks: contracts. No condition but those that each theorem states. -/
import Derived.Test.YtppiilbcnkphbaaGreatBzah
import Derived.Test.YtppiilbcnkphbaaGreatBzad
import Derived.Test.YtppiilbcnkphbaaGreatBzar
import Derived.Lib.AppendStr
import Derived.Deep.AppendLies
import Derived.Test.YtppiilbcnkphbaaGreatBzaj
namespace Go.Proofs.YtppiilbcnkphbaaGreat
open Go.RowKit
set_option linter.unusedVariables false

/-- Bytes of elements, of a text. -/
def eB (f g : Nat → Int) (n : Nat) : List Value := (List.range (n * 8)).map (bvl f g)

/-- Only the own block may have turned. -/
def OB (c : Option Addr) (b : Nat) : Prop := c = some ⟨b, 0, none⟩

end Go.Proofs.YtppiilbcnkphbaaGreat

namespace Go.Proofs.YtppiilbcnkphbaaGreat
open Go.ChangeShapes Go.WideShapes Go.ChangeAt Go.RowKit
set_option linter.unusedVariables false
set_option maxRecDepth 100000
set_option linter.unusedSimpArgs false

set_option maxHeartbeats 1000000 in
theorem markByteW_any (g n cap : Nat) (h : Nat → Value) (w : World) (hr : Hid (WRow w g n h)) (hn : n ≤ 1099511627776) :
    Calls Tryz.prog 13 #[.slice (some ⟨g, 0, none⟩) n cap, .int .i64 1] w fun e w' => e = .returned (.int .i64 (1 + n)) ∧ WRow w' g n (bw mkb) ∧ Chg (fun b => b = g) w w' := by
  go_enter Tryz.func13, Tryz.ntmps13
  go_wp2
  go_loopw [1, 5] (fun v i W => ∃ k : Nat, k ≤ n ∧ i = .int .i64 k ∧ v = .int .i64 (1 + k) ∧ Hid (WRow W g n (fun j => if j < k then bw mkb j else h j)) ∧ Hid (Chg (fun b => b = g) w W)) (fun _ i _ => n - (intOf i).toNat)
  case atStart => exact ⟨0, Nat.zero_le _, rfl, rfl, hik (hr.out.congr (fun i _ => by simp)), hik (Chg.refl _ _)⟩
  case round =>
    obtain ⟨k, hk, rfl, rfl, HR, HC⟩ := hrel
    by_cases hlt : k < n
    · have hg := HR.out.cell k hlt
      have hf := HR.out.fro k hlt
      have hgl := HR.out.lt
      simp only [Nat.lt_irrefl, if_false] at hg
      have HR2 := hik (show _ from (HR.out.set k hlt (.int .u8 ((1 + (k : Int)) % 256))).congr (f' := fun j => if j < k + 1 then bw mkb j else h j) (fun i _ => by
        by_cases e : i = k
        · subst e; simp [bw, mkb]
        · by_cases e2 : i < k
          · simp [e, e2, show i < k + 1 by omega]
          · simp [e, e2, show ¬ i < k + 1 by omega]))
      have HC2 := hik (HC.out.setCell (p := ⟨g, k, none⟩) (fun _ => rfl) (.int .u8 ((1 + (k : Int)) % 256)))
      go_wp2
      go_roundw
      case rel => exact ⟨k + 1, by omega, by go_num, by go_num, HR2, HC2⟩
      case measure => simp [intOf]; omega
    · obtain rfl : k = n := by omega
      go_wp2
      go_ret
      exact ⟨rfl, HR.out.congr (fun i hi => by simp [hi]), HC.out⟩
theorem markByteM_any (c : Option Addr) (n cap B T : Nat) (f : Nat → Value) (w : World) (h : Hid (Mine w B T c n f)) (hn : n ≤ 549755813888) :
    Calls Tryz.prog 13 #[.slice c n cap, .int .i64 1] w fun e w' => e = .returned (.int .i64 (1 + n)) ∧ Mine w' B T c n (bw mkb) ∧ Chg (fun b => B ≤ b ∧ b < T) w w' := by
  rcases h.out with rfl | ⟨b, rfl, hb, hb', hw⟩
  · refine (markByteS_none c cap w).mono ?_
    rintro e w' ⟨rfl, k⟩
    exact ⟨rfl, .inl rfl, k.wide⟩
  · refine (markByteW_any b n cap f w (hik hw) (by omega)).mono ?_
    rintro e w' ⟨rfl, hw', k⟩
    exact ⟨rfl, .inr ⟨b, rfl, hb, hb', hw'⟩, k.mono (fun i _ e => by rw [e]; exact ⟨hb, hb'⟩)⟩

end Go.Proofs.YtppiilbcnkphbaaGreat
