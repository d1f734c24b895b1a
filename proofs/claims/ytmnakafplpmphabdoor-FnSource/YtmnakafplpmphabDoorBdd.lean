/- Several texts in one: Elements read from bytes: what the program's reading does: contracts. Conditions: rows that can be read. · Elements read from a string by the model: contracts. Conditions: those of each theorem. · What ReadExts answers: a contract. Condition: bytes that can be read. · What the model's reading of bytes answers: contracts. Conditions: bytes that can be read. -/
import Derived.Test.YtmnakafplpmphabDoorBdc
import Derived.Deep.RegionWith
import Derived.Laws.BytesArg
namespace Go.Proofs.YtmnakafplpmphabDoor
open Go.ChangeShapes Go.WideShapes Go.ChangeAt Go.RowKit
set_option linter.unusedVariables false
set_option linter.unusedSimpArgs false

/-- The number that four bytes from i on are. -/
def w4 (z : Nat → Int) (i : Nat) : Int := z i * 16777216 + z (i + 1) * 65536 + z (i + 2) * 256 + z (i + 3)

theorem or_nat64 (a b : Nat) (ha : a < 2 ^ 62) (hb : b < 2 ^ 62) : bits .or .i64 (a : Int) (b : Int) = ((a ||| b : Nat) : Int) := by
  have h : a ||| b < 2 ^ 62 := Nat.or_lt_two_pow ha hb
  unfold bits
  simp only [BitVec.ofInt_natCast]
  rw [BitVec.toNat_or, BitVec.toNat_ofNat, BitVec.toNat_ofNat]
  rw [Nat.mod_eq_of_lt (show a < 2 ^ IntKind.i64.bits from Nat.lt_of_lt_of_le ha (by decide)), Nat.mod_eq_of_lt (show b < 2 ^ IntKind.i64.bits from Nat.lt_of_lt_of_le hb (by decide)), IntKind.wrap_i64]
  omega
theorem or_low (a b i m : Nat) (hm : m = 2 ^ i) (h : a < m) : (b * m) ||| a = b * m + a := by
  subst hm
  rw [← Nat.shiftLeft_eq, Nat.shiftLeft_add_eq_or_of_lt h]
theorem w4_bits (a b c d : Int) (a0 : 0 ≤ a) (a1 : a < 256) (b0 : 0 ≤ b) (b1 : b < 256) (c0 : 0 ≤ c) (c1 : c < 256) (d0 : 0 ≤ d) (d1 : d < 256) :
    bits BinOp.or IntKind.i64 (bits BinOp.or IntKind.i64 (bits BinOp.or IntKind.i64 (a * 16777216) (b * 65536)) (c * 256)) d = a * 16777216 + b * 65536 + c * 256 + d := by
  obtain ⟨n0, rfl⟩ := Int.eq_ofNat_of_zero_le a0
  obtain ⟨n1, rfl⟩ := Int.eq_ofNat_of_zero_le b0
  obtain ⟨n2, rfl⟩ := Int.eq_ofNat_of_zero_le c0
  obtain ⟨n3, rfl⟩ := Int.eq_ofNat_of_zero_le d0
  have e0 : ((n0 : Int) * 16777216) = ((n0 * 16777216 : Nat) : Int) := by omega
  have e1 : ((n1 : Int) * 65536) = ((n1 * 65536 : Nat) : Int) := by omega
  have e2 : ((n2 : Int) * 256) = ((n2 * 256 : Nat) : Int) := by omega
  rw [e0, e1, e2, or_nat64 _ _ (by omega) (by omega), or_low (n1 * 65536) n0 24 16777216 (by decide) (by omega)]
  rw [or_nat64 _ _ (by omega) (by omega), show n0 * 16777216 + n1 * 65536 = (n0 * 256 + n1) * 65536 by omega, or_low (n2 * 256) _ 16 65536 (by decide) (by omega)]
  rw [or_nat64 _ _ (by omega) (by omega), show (n0 * 256 + n1) * 65536 + n2 * 256 = ((n0 * 256 + n1) * 256 + n2) * 256 by omega, or_low n3 _ 8 256 (by decide) (by omega)]
  omega

set_option maxHeartbeats 1000000 in
theorem wordAt_any (xb xo n cap i : Nat) (z : Nat → Int) (w : World) (h0 : w.cell? ⟨xb, xo, none⟩ = some (.int .u8 (z i))) (h1 : w.cell? ⟨xb, xo + 1, none⟩ = some (.int .u8 (z (i + 1)))) (h2 : w.cell? ⟨xb, xo + 2, none⟩ = some (.int .u8 (z (i + 2)))) (h3 : w.cell? ⟨xb, xo + 3, none⟩ = some (.int .u8 (z (i + 3))))
    (a0 : 0 ≤ z i) (a1 : z i < 256) (b0 : 0 ≤ z (i + 1)) (b1 : z (i + 1) < 256) (c0 : 0 ≤ z (i + 2)) (c1 : z (i + 2) < 256) (d0 : 0 ≤ z (i + 3)) (d1 : z (i + 3) < 256) (hn : (4 : Int) ≤ (n : Int)) (hm : (n : Int) ≤ 1099511627776) :
    Calls Tryd.prog 124 #[.slice (some ⟨xb, xo, none⟩) n cap] w fun e w' => e = .returned (.int .i64 (w4 z i)) ∧ Chg nob w w' := by
  have e0 : (0 : Int) < (n : Int) := by omega
  have e1 : (1 : Int) < (n : Int) := by omega
  have e2 : (2 : Int) < (n : Int) := by omega
  have e3 : (3 : Int) < (n : Int) := by omega
  go_enter Tryd.func124, Tryd.ntmps124
  go_wp2
  go_quiet (fail)
  go_wp2
  go_ret
  exact ⟨ret_int (w4_bits _ _ _ _ a0 a1 b0 b1 c0 c1 d0 d1), (Chg.refl _ _).drewN _⟩

end Go.Proofs.YtmnakafplpmphabDoor

namespace Go.Proofs.YtmnakafplpmphabDoor
open Go.ChangeShapes Go.WideShapes Go.ChangeAt Go.RowKit
set_option linter.unusedVariables false
set_option linter.unusedSimpArgs false

/-- Byte i of a string. -/
def sz (s : ByteArray) (i : Nat) : Int := ((s.data.toList[i]?.getD 0).toNat : Int)
theorem sz_lo (s : ByteArray) (i : Nat) : 0 ≤ sz s i := by unfold sz; omega
theorem sz_hi (s : ByteArray) (i : Nat) : sz s i < 256 := by unfold sz; have := UInt8.toNat_lt (s.data.toList[i]?.getD 0); omega
theorem sz_at (s : ByteArray) (i : Nat) (h : i < s.size) : (s[i].toNat : Int) = sz s i := by
  unfold sz
  have e : s.data.toList[i]? = some s[i] := by
    rw [List.getElem?_eq_getElem (by simpa using h)]
    rfl
  rw [e]
  rfl
/-- The number that the first k bytes are. -/
def acc (s : ByteArray) : Nat → Int
  | 0 => 0
  | k + 1 => acc s k * 256 + sz s k
theorem acc_bd (s : ByteArray) : ∀ k, k ≤ 3 → 0 ≤ acc s k ∧ acc s k < 16777216 := by
  intro k hk
  have h0 := sz_lo s 0
  have h0' := sz_hi s 0
  have h1 := sz_lo s 1
  have h1' := sz_hi s 1
  have h2 := sz_lo s 2
  have h2' := sz_hi s 2
  match k, hk with
  | 0, _ => simp [acc]
  | 1, _ => simp only [acc]; omega
  | 2, _ => simp only [acc]; omega
  | 3, _ => simp only [acc]; omega
theorem acc_four (s : ByteArray) : acc s 4 = w4 (sz s) 0 := by simp only [acc, w4, Nat.zero_add]; omega

theorem sz_extract (s : ByteArray) (a b i : Nat) (hb : b ≤ s.size) (hi : a + i < b) : sz (s.extract a b) i = sz s (a + i) := by
  have h1 : i < (s.extract a b).size := by simp; omega
  rw [← sz_at _ _ h1, ← sz_at s (a + i) (by omega)]
  congr 1
  simp [ByteArray.getElem_extract]
theorem four_extract (s : ByteArray) (a : Nat) (h : a + 4 ≤ s.size) : w4 (sz (s.extract a (a + 4))) 0 = w4 (sz s) a := by
  unfold w4
  rw [sz_extract s a (a + 4) 0 h (by omega), sz_extract s a (a + 4) (0 + 1) h (by omega), sz_extract s a (a + 4) (0 + 2) h (by omega), sz_extract s a (a + 4) (0 + 3) h (by omega)]
  simp
theorem pairs_of_owns {w : World} {B : Nat} {t : TypeId} {v : Value} {n : Nat} {f g : Nat → Int} (ho : w.ownsRow B t 2 v n ((List.range (n * 2)).map (pf f g))) : ∃ (c0 : Option Addr) (cap0 : Nat), v = .slice c0 n cap0 ∧ PairV w c0 n f g := by
  have ho' := ho
  rcases ho.2 with ⟨rfl, rfl⟩ | ⟨b, cap, cur, rfl, _⟩
  · exact ⟨none, 0, rfl, fun i hi => by omega⟩
  · refine ⟨some ⟨b, 0, none⟩, cap, rfl, fun i hi => ?_⟩
    have c0 := ho'.cellAt (i * 2) (by omega)
    have c1 := ho'.cellAt (i * 2 + 1) (by omega)
    rw [List.getElem?_map, List.getElem?_range (by omega)] at c0 c1
    have c0' : w.cell? ⟨b, i * 2, none⟩ = some (.int .i64 (f i)) := by rw [c0]; exact congrArg some (pf_even f g i)
    have c1' : w.cell? ⟨b, i * 2 + 1, none⟩ = some (.int .i64 (g i)) := by rw [c1]; exact congrArg some (pf_odd f g i)
    exact ⟨b, 0, rfl, block_lt_of_cell c0', by rw [Nat.zero_add]; exact c0', by rw [Nat.zero_add]; exact c1'⟩
theorem range_pair (f g : Nat → Int) (k : Nat) : (List.range (k * 2)).map (pf f g) ++ [.int .i64 (f k), .int .i64 (g k)] = (List.range ((k + 1) * 2)).map (pf f g) := by
  rw [show (k + 1) * 2 = k * 2 + 1 + 1 by omega, List.range_succ, List.range_succ]
  simp [pf_even, pf_odd]

end Go.Proofs.YtmnakafplpmphabDoor

namespace Go.Proofs.YtmnakafplpmphabDoor
open Go.ChangeShapes Go.WideShapes Go.ChangeAt Go.RowKit
set_option linter.unusedVariables false
set_option linter.unusedSimpArgs false

theorem RowV.whole {w : World} {c : Option Addr} {n : Nat} {f : Nat → Value} (h : RowV w c n f) (hn : 0 < n) : ∃ xb xo : Nat, c = some ⟨xb, xo, none⟩ ∧ xb < w.heap.size ∧ ∀ i, i < n → w.cell? ⟨xb, xo + i, none⟩ = some (f i) := by
  obtain ⟨xb, xo, e, l, _⟩ := h 0 hn
  refine ⟨xb, xo, e, l, fun i hi => ?_⟩
  obtain ⟨xb', xo', e', _, hc⟩ := h i hi
  rw [e] at e'
  obtain ⟨rfl, rfl⟩ : xb = xb' ∧ xo = xo' := by simpa using e'
  exact hc
/-- What the bytes say. -/
def rf (z : Nat → Int) (i : Nat) : Int := w4 z (i * 8)
def rg (z : Nat → Int) (i : Nat) : Int := w4 z (i * 8 + 4)
/-- The code of bytes. -/
def rc (z : Nat → Int) (n : Nat) : Int := if 65536 < n then 2 else if n % 8 = 0 then (if okP (rf z) (rg z) (n / 8) then (if 4096 < n / 8 then 6 else 0) else 3) else 3
def NoList (w : World) (code : Int) (e : Ending) (w' : World) : Prop := e = .returned (.tuple #[.slice none 0 0, .int .i64 code]) ∧ Chg nob w w'
def NewList (w : World) (n : Nat) (z : Nat → Int) (e : Ending) (w' : World) : Prop :=
  ∃ b : Nat, w.heap.size ≤ b ∧ e = .returned (.tuple #[.slice (some ⟨b, 0, none⟩) (n / 8) (n / 8), .int .i64 0]) ∧ w'.rowIs b 57 (n / 8 * 2) (pf (rf z) (rg z)) ∧ Chg nob w w'
def RAns (w : World) (n : Nat) (z : Nat → Int) (e : Ending) (w' : World) : Prop := (rc z n ≠ 0 ∧ NoList w (rc z n) e w') ∨ (rc z n = 0 ∧ NewList w n z e w')
theorem RAns.no {w w' : World} {n : Nat} {z : Nat → Int} {e : Ending} {code : Int} (hb : rc z n = code) (hc : code ≠ 0) (h : e = .returned (.tuple #[.slice none 0 0, .int .i64 code])) (k : Chg nob w w') : RAns w n z e w' :=
  .inl ⟨by rw [hb]; exact hc, by rw [hb]; exact ⟨h, k⟩⟩

end Go.Proofs.YtmnakafplpmphabDoor

namespace Go.Proofs.YtmnakafplpmphabDoor
open Go.ChangeShapes Go.WideShapes Go.ChangeAt Go.RowKit
set_option linter.unusedVariables false
set_option linter.unusedSimpArgs false

theorem news2 (W : World) (a b : Int) (T : TypeId) : ∀ j u, ([.int .i64 a, .int .i64 b] : List Value)[j]? = some u → (W.alloc (.cells #[.int .i64 a, .int .i64 b] T)).cell? ((⟨W.heap.size, 0, none⟩ : Addr).add j) = some u := by
  intro j u hj
  match j, hj with
  | 0, hj => simp at hj; subst hj; simp [Addr.add]
  | 1, hj => simp at hj; subst hj; simp [Addr.add]
  | j + 2, hj => simp at hj
theorem one2 (a b : Int) : ∀ u ∈ ([.int .i64 a, .int .i64 b] : List Value), u.oneCell' = true := by
  intro u hu
  simp at hu
  rcases hu with rfl | rfl <;> rfl
/-- What the model's reading of a string gives. -/
def SRd (w : World) (s : ByteArray) (e : Ending) (w' : World) : Prop :=
  (¬ (s.size % 8 = 0 ∧ okP (rf (sz s)) (rg (sz s)) (s.size / 8) = true) ∧ ∃ (c0 : Option Addr) (cap0 : Nat), e = .returned (.tuple #[.slice c0 0 cap0, .bool false]) ∧ Chg nob w w') ∨
  ((s.size % 8 = 0 ∧ okP (rf (sz s)) (rg (sz s)) (s.size / 8) = true) ∧ ∃ (c0 : Option Addr) (cap0 : Nat), e = .returned (.tuple #[.slice c0 (s.size / 8) cap0, .bool true]) ∧ PairV w' c0 (s.size / 8) (rf (sz s)) (rg (sz s)) ∧ Chg nob w w')

end Go.Proofs.YtmnakafplpmphabDoor
