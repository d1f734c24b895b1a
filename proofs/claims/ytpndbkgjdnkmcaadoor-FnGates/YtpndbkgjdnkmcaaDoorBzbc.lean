/- Several texts in one: A word and the numbers behind it: plain. No condition but those that each theorem states. · What the program's textOf answers: a contract. Conditions: numbers from 0 to the prime, at most 1000 of them, a word of at most 1000 bytes, the table of powers of ten. -/
import Derived.Test.YtpndbkgjdnkmcaaDoorBzab
import Derived.Test.YtpndbkgjdnkmcaaDoorBzay
namespace Go.Proofs.YtpndbkgjdnkmcaaDoor
set_option linter.unusedVariables false
set_option linter.unusedSimpArgs false
/-- A word and the first k numbers. -/
def txl (W : List UInt8) (f : Nat → Int) : Nat → List UInt8
  | 0 => W
  | k + 1 => txl W f k ++ (32 :: Go.Lib.itoa (f k))
theorem gtl_txl (g : Gt) : ∀ k, gtl g k = txl (gwd g.1) (gnv g) k
  | 0 => rfl
  | k + 1 => by
    show gtl g k ++ _ = txl (gwd g.1) (gnv g) k ++ _
    rw [gtl_txl g k]
theorem txl_len {W : List UInt8} {f : Nat → Int} {n : Nat} (h : ∀ i, i < n → 0 ≤ f i ∧ f i ≤ 2130706433) : ∀ k, k ≤ n → (txl W f k).length ≤ W.length + 31 * k
  | 0, _ => Nat.le_refl _
  | k + 1, hk => by
    have h1 := txl_len (W := W) h k (by omega)
    have h2 := ito_len (h k (by omega)).1 (h k (by omega)).2
    show (txl W f k ++ (32 :: Go.Lib.itoa (f k))).length ≤ _
    simp
    omega

end Go.Proofs.YtpndbkgjdnkmcaaDoor

namespace Go.Proofs.YtpndbkgjdnkmcaaDoor
open Go.ChangeShapes Go.WideShapes Go.ChangeAt Go.RowKit
set_option linter.unusedVariables false
set_option maxRecDepth 100000
set_option linter.unusedSimpArgs false

set_option maxHeartbeats 2000000 in
theorem textOf_any (Wd : List UInt8) (c : Option Addr) (n cap : Nat) (f : Nat → Int) (w : World) (h : Hid (RowV w c n (iv f))) (hz : Hid (∀ k, k < n → 0 ≤ f k ∧ f k ≤ 2130706433)) (hn : n ≤ 1000) (hw : Wd.length ≤ 1000) (ht : Hid (Pw10 w)) :
    Calls Tryd.prog 21 #[.string ⟨Wd.toArray⟩, .slice c n cap] w fun e w' => e = .returned (.string ⟨(txl Wd f n).toArray⟩) ∧ Chg nob w w' := by
  have HLN := hik (fun k (hk : k ≤ n) => txl_len (W := Wd) hz.out k hk)
  have HTL := hik (show ∀ k, txl Wd f (k + 1) = txl Wd f k ++ (32 :: Go.Lib.itoa (f k)) from fun k => rfl)
  have HT0 := hik (show Wd = txl Wd f 0 from rfl)
  generalize hgt : txl Wd f = TL at HTL HT0 HLN ⊢
  clear hgt
  go_enter Tryd.func21, Tryd.ntmps21
  go_wp2_with fail
  go_loopw [5, 11] (fun v i W => ∃ k : Nat, k ≤ n ∧ i = .int .i64 k ∧ v = .string ⟨(TL k).toArray⟩ ∧ Hid (Chg nob w W)) (fun _ i _ => n - (intOf i).toNat)
  case atStart => exact ⟨0, Nat.zero_le _, rfl, by rw [← HT0.out], hik (Chg.refl nob w)⟩
  case round =>
    obtain ⟨k, hk, rfl, rfl, KK⟩ := hrel
    rename World => wi
    by_cases hlt : k < n
    · have hkn : ((k : Nat) : Int) < n := by omega
      obtain ⟨yb, yo, rfl, hyb, d0⟩ := (h.out.keep KK.out) k hlt
      have d1 : wi.cell? ⟨yb, yo + k, none⟩ = some (.int .i64 (f k)) := by simpa [iv] using d0
      clear d0
      have hnv := hz.out k hlt
      have HS := hik (HTL.out k)
      have hl1 := HLN.out k hk
      generalize f k = z at d1 hnv HS
      have hl2 := ito_len hnv.1 hnv.2
      have hl3 : ¬ 9223372036854775807 < 1 + (Go.Lib.itoa z).length := by omega
      have hl4 : ¬ 9223372036854775807 < (TL k).length + (1 + (Go.Lib.itoa z).length) := by omega
      have hit := itoa_any z wi (hik (ht.out.keep KK.out)) hnv.1 (by omega)
      go_wp2_with (go_at_call 38; refine hit.mono ?_; rintro e W5 ⟨rfl, k5⟩; have K5 := hik (KK.out.trans k5); clear k5)
      go_roundw
      case rel => exact ⟨k + 1, by omega, by go_num, by rw [HS.out]; first | rfl | (rw [← ba_app, show (32 :: Go.Lib.itoa z) = [32] ++ Go.Lib.itoa z from rfl, ← ba_app]; rfl), K5⟩
      case measure => simp [intOf]; omega
    · obtain rfl : n = k := by omega
      go_wp2
      go_ret
      exact ⟨rfl, KK.out⟩

end Go.Proofs.YtpndbkgjdnkmcaaDoor
