/- Several texts in one: The model's four bytes of a number: a contract. Condition: a number of the field. · The model's bytes of a list: contracts. Conditions: rows that can be read, right elements. · Elements read from a string by the model: contracts. Conditions: those of each theorem. · What the model's reading of bytes answers: contracts. Conditions: bytes that can be read. -/
import Derived.Test.YtppiilbcnkphbaaGreatBzad
import Derived.Deep.RegionWith
import Derived.Deep.AppendLies
import Derived.Laws.BytesArg
import Derived.Test.YtppiilbcnkphbaaGreatBzaf
namespace Go.Proofs.YtppiilbcnkphbaaGreat
open Go.ChangeShapes Go.WideShapes Go.ChangeAt Go.RowKit
set_option linter.unusedVariables false
set_option linter.unusedSimpArgs false

/-! The model's. -/
theorem owns_none (w : World) (B : Nat) (t : TypeId) (z : Nat) (hB : B ≤ w.heap.size) : (w.alloc (.cells #[] t)).ownsRow B t z (.slice (some ⟨w.heap.size, 0, none⟩) 0 0) 0 [] :=
  ⟨by simp, .inr ⟨w.heap.size, 0, #[], rfl, hB, Array.getElem?_push_size, Nat.le_refl _, Nat.zero_le _, by simp, by simp⟩⟩


end Go.Proofs.YtppiilbcnkphbaaGreat

namespace Go.Proofs.YtppiilbcnkphbaaGreat
open Go.ChangeShapes Go.WideShapes Go.ChangeAt Go.RowKit
set_option linter.unusedVariables false
set_option linter.unusedSimpArgs false

/-- The model's answer, by the code. -/
def SEAns (w : World) (n : Nat) (f g : Nat → Int) (e : Ending) (w' : World) : Prop :=
  (bc f g n ≠ 0 ∧ ∃ (c0 : Option Addr) (cap0 : Nat), e = .returned (.tuple #[.slice c0 0 cap0, .int .i64 (bc f g n)]) ∧ Chg nob w w') ∨
  (bc f g n = 0 ∧ ∃ (c0 : Option Addr) (cap0 : Nat), e = .returned (.tuple #[.slice c0 (n * 8) cap0, .int .i64 0]) ∧ RowV w' c0 (n * 8) (bvl f g) ∧ Chg nob w w')
theorem SEAns.no {w w' : World} {n : Nat} {f g : Nat → Int} {e : Ending} {code : Int} {c0 : Option Addr} {cap0 : Nat} (hb : bc f g n = code) (hc : code ≠ 0) (h : e = .returned (.tuple #[.slice c0 0 cap0, .int .i64 code])) (k : Chg nob w w') : SEAns w n f g e w' :=
  .inl ⟨by rw [hb]; exact hc, c0, cap0, by rw [hb]; exact h, k⟩


end Go.Proofs.YtppiilbcnkphbaaGreat

namespace Go.Proofs.YtppiilbcnkphbaaGreat
open Go.ChangeShapes Go.WideShapes Go.ChangeAt Go.RowKit
set_option linter.unusedVariables false
set_option linter.unusedSimpArgs false

/-- Byte i of a string. -/
def sz (s : ByteArray) (i : Nat) : Int := ((s.data.toList[i]?.getD 0).toNat : Int)
theorem sz_lo (s : ByteArray) (i : Nat) : 0 ≤ sz s i := by unfold sz; omega
theorem sz_hi (s : ByteArray) (i : Nat) : sz s i < 256 := by unfold sz; have := UInt8.toNat_lt (s.data.toList[i]?.getD 0); omega
theorem sz_at (s : ByteArray) (i : Nat) (h : i < s.size) : (s[i].toNat : Int) = sz s i := by
  unfold sz
  have e : s.data.toList[i]? = some s[i] := by
    rw [List.getElem?_eq_getElem (by simpa using h)]
    rfl
  rw [e]
  rfl
/-- The number that the first k bytes are. -/
def acc (s : ByteArray) : Nat → Int
  | 0 => 0
  | k + 1 => acc s k * 256 + sz s k
theorem acc_bd (s : ByteArray) : ∀ k, k ≤ 3 → 0 ≤ acc s k ∧ acc s k < 16777216 := by
  intro k hk
  have h0 := sz_lo s 0
  have h0' := sz_hi s 0
  have h1 := sz_lo s 1
  have h1' := sz_hi s 1
  have h2 := sz_lo s 2
  have h2' := sz_hi s 2
  match k, hk with
  | 0, _ => simp [acc]
  | 1, _ => simp only [acc]; omega
  | 2, _ => simp only [acc]; omega
  | 3, _ => simp only [acc]; omega
theorem acc_four (s : ByteArray) : acc s 4 = w4 (sz s) 0 := by simp only [acc, w4, Nat.zero_add]; omega

set_option maxHeartbeats 1000000 in
theorem l02Four_any (t : ByteArray) (w : World) (ht : t.size = 4) :
    Calls Tryz.prog 62 #[.string t] w fun e w' => e = .returned (.int .i64 (w4 (sz t) 0)) ∧ w' = w := by
  go_enter Tryz.func62, Tryz.ntmps62
  go_wp2
  go_loop [3, 4] (fun n i => ∃ k : Nat, k ≤ 4 ∧ i = .int .i64 k ∧ n = .int .i64 (acc t k)) (fun _ i => 4 - (intOf i).toNat)
  case atStart => exact ⟨0, by omega, rfl, rfl⟩
  case round =>
    obtain ⟨k, hk, rfl, rfl⟩ := hrel
    by_cases hlt : k < 4
    · have hki : (k : Int) < 4 := by omega
      have hks : k < t.size := by omega
      obtain ⟨b0, b1⟩ := acc_bd t k (by omega)
      have s0 := sz_lo t k
      have s1 := sz_hi t k
      have HS := hide (sz_at t k hks)
      have hb : (t[k].toNat : Int) < 256 := by have := UInt8.toNat_lt t[k]; omega
      go_wp2
      go_round
      case rel => exact ⟨k + 1, by omega, by go_num, by rw [acc, ← HS.out]⟩
      case measure => simp [intOf]; omega
    · obtain rfl : k = 4 := by omega
      go_wp2
      go_ret
      exact ⟨ret_int (acc_four t), rfl⟩

theorem sz_extract (s : ByteArray) (a b i : Nat) (hb : b ≤ s.size) (hi : a + i < b) : sz (s.extract a b) i = sz s (a + i) := by
  have h1 : i < (s.extract a b).size := by simp; omega
  rw [← sz_at _ _ h1, ← sz_at s (a + i) (by omega)]
  congr 1
  simp [ByteArray.getElem_extract]
theorem four_extract (s : ByteArray) (a : Nat) (h : a + 4 ≤ s.size) : w4 (sz (s.extract a (a + 4))) 0 = w4 (sz s) a := by
  unfold w4
  rw [sz_extract s a (a + 4) 0 h (by omega), sz_extract s a (a + 4) (0 + 1) h (by omega), sz_extract s a (a + 4) (0 + 2) h (by omega), sz_extract s a (a + 4) (0 + 3) h (by omega)]
  simp
theorem range_pair (f g : Nat → Int) (k : Nat) : (List.range (k * 2)).map (pf f g) ++ [.int .i64 (f k), .int .i64 (g k)] = (List.range ((k + 1) * 2)).map (pf f g) := by
  rw [show (k + 1) * 2 = k * 2 + 1 + 1 by omega, List.range_succ, List.range_succ]
  simp [pf_even, pf_odd]


end Go.Proofs.YtppiilbcnkphbaaGreat

namespace Go.Proofs.YtppiilbcnkphbaaGreat
open Go.ChangeShapes Go.WideShapes Go.ChangeAt Go.RowKit
set_option linter.unusedVariables false
set_option linter.unusedSimpArgs false
set_option maxRecDepth 100000

theorem news2 (W : World) (a b : Int) (T : TypeId) : ∀ j u, ([.int .i64 a, .int .i64 b] : List Value)[j]? = some u → (W.alloc (.cells #[.int .i64 a, .int .i64 b] T)).cell? ((⟨W.heap.size, 0, none⟩ : Addr).add j) = some u := by
  intro j u hj
  match j, hj with
  | 0, hj => simp at hj; subst hj; simp [Addr.add]
  | 1, hj => simp at hj; subst hj; simp [Addr.add]
  | j + 2, hj => simp at hj
theorem one2 (a b : Int) : ∀ u ∈ ([.int .i64 a, .int .i64 b] : List Value), u.oneCell' = true := by
  intro u hu
  simp at hu
  rcases hu with rfl | rfl <;> rfl


end Go.Proofs.YtppiilbcnkphbaaGreat
