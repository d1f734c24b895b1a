/- Elements read from a string by the model: contracts. Conditions: those of each theorem. -/
import Derived.Test.YtmnakafplpmphabDoorRed
import Derived.Test.YtmnakafplpmphabDoorBytL
import Derived.Laws.BytesArg
namespace Go.Proofs.YtmnakafplpmphabDoor
open Go.ChangeShapes Go.WideShapes Go.ChangeAt Go.RowKit
set_option linter.unusedVariables false
set_option linter.unusedSimpArgs false

/-- Byte i of a string. -/
def sz (s : ByteArray) (i : Nat) : Int := ((s.data.toList[i]?.getD 0).toNat : Int)
theorem sz_lo (s : ByteArray) (i : Nat) : 0 ≤ sz s i := by unfold sz; omega
theorem sz_hi (s : ByteArray) (i : Nat) : sz s i < 256 := by unfold sz; have := UInt8.toNat_lt (s.data.toList[i]?.getD 0); omega
theorem sz_at (s : ByteArray) (i : Nat) (h : i < s.size) : (s[i].toNat : Int) = sz s i := by
  unfold sz
  have e : s.data.toList[i]? = some s[i] := by
    rw [List.getElem?_eq_getElem (by simpa using h)]
    rfl
  rw [e]
  rfl
/-- The number that the first k bytes are. -/
def acc (s : ByteArray) : Nat → Int
  | 0 => 0
  | k + 1 => acc s k * 256 + sz s k
theorem acc_bd (s : ByteArray) : ∀ k, k ≤ 3 → 0 ≤ acc s k ∧ acc s k < 16777216 := by
  intro k hk
  have h0 := sz_lo s 0
  have h0' := sz_hi s 0
  have h1 := sz_lo s 1
  have h1' := sz_hi s 1
  have h2 := sz_lo s 2
  have h2' := sz_hi s 2
  match k, hk with
  | 0, _ => simp [acc]
  | 1, _ => simp only [acc]; omega
  | 2, _ => simp only [acc]; omega
  | 3, _ => simp only [acc]; omega
theorem acc_four (s : ByteArray) : acc s 4 = w4 (sz s) 0 := by simp only [acc, w4, Nat.zero_add]; omega

theorem sz_extract (s : ByteArray) (a b i : Nat) (hb : b ≤ s.size) (hi : a + i < b) : sz (s.extract a b) i = sz s (a + i) := by
  have h1 : i < (s.extract a b).size := by simp; omega
  rw [← sz_at _ _ h1, ← sz_at s (a + i) (by omega)]
  congr 1
  simp [ByteArray.getElem_extract]
theorem four_extract (s : ByteArray) (a : Nat) (h : a + 4 ≤ s.size) : w4 (sz (s.extract a (a + 4))) 0 = w4 (sz s) a := by
  unfold w4
  rw [sz_extract s a (a + 4) 0 h (by omega), sz_extract s a (a + 4) (0 + 1) h (by omega), sz_extract s a (a + 4) (0 + 2) h (by omega), sz_extract s a (a + 4) (0 + 3) h (by omega)]
  simp
theorem pairs_of_owns {w : World} {B : Nat} {t : TypeId} {v : Value} {n : Nat} {f g : Nat → Int} (ho : w.ownsRow B t 2 v n ((List.range (n * 2)).map (pf f g))) : ∃ (c0 : Option Addr) (cap0 : Nat), v = .slice c0 n cap0 ∧ PairV w c0 n f g := by
  have ho' := ho
  rcases ho.2 with ⟨rfl, rfl⟩ | ⟨b, cap, cur, rfl, _⟩
  · exact ⟨none, 0, rfl, fun i hi => by omega⟩
  · refine ⟨some ⟨b, 0, none⟩, cap, rfl, fun i hi => ?_⟩
    have c0 := ho'.cellAt (i * 2) (by omega)
    have c1 := ho'.cellAt (i * 2 + 1) (by omega)
    rw [List.getElem?_map, List.getElem?_range (by omega)] at c0 c1
    have c0' : w.cell? ⟨b, i * 2, none⟩ = some (.int .i64 (f i)) := by rw [c0]; exact congrArg some (pf_even f g i)
    have c1' : w.cell? ⟨b, i * 2 + 1, none⟩ = some (.int .i64 (g i)) := by rw [c1]; exact congrArg some (pf_odd f g i)
    exact ⟨b, 0, rfl, block_lt_of_cell c0', by rw [Nat.zero_add]; exact c0', by rw [Nat.zero_add]; exact c1'⟩
theorem range_pair (f g : Nat → Int) (k : Nat) : (List.range (k * 2)).map (pf f g) ++ [.int .i64 (f k), .int .i64 (g k)] = (List.range ((k + 1) * 2)).map (pf f g) := by
  rw [show (k + 1) * 2 = k * 2 + 1 + 1 by omega, List.range_succ, List.range_succ]
  simp [pf_even, pf_odd]

end Go.Proofs.YtmnakafplpmphabDoor
