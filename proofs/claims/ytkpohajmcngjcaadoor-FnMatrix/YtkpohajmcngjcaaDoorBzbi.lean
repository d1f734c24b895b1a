/- Several texts in one: Keccak's permutation and its bytes, as plain functions on lanes of 64 bits; numbers that the model of the language reckons, as such lanes. No program is named here. · Words on memory: whole arrays by value, out of rows and into rows. No program is named here. -/
import Derived.Laws.Bits64b
import Derived.Laws.Bits64
import Derived.Test.YtkpohajmcngjcaaDoorBzaa
import Derived.Test.YtkpohajmcngjcaaDoorBzbb
import Derived.WalkKit
import Derived.Laws.Rows
import Derived.Laws.Tables
import Derived.Deep.WholeRow
namespace Go.Proofs.YtkpohajmcngjcaaDoor

abbrev Lane := BitVec 64
/-- A lane as a value. -/
def lw (x : Lane) : Value := .int .u64 (x.toNat : Int)
theorem lane_lt (x : Lane) : (x.toNat : Int) < 18446744073709551616 := by have := x.isLt; omega
theorem wrap_lane (x : Lane) : IntKind.u64.wrap (x.toNat : Int) = (x.toNat : Int) := by
  rw [IntKind.wrap_u64]; have := lane_lt x; omega
theorem bits_lane (op : BinOp) (x y : Lane) : bits op .u64 (x.toNat : Int) (y.toNat : Int) = ((match op with | .and => x &&& y | .or => x ||| y | .xor => x ^^^ y | _ => x &&& ~~~ y : Lane).toNat : Int) := by
  unfold bits
  have hx : BitVec.ofInt IntKind.u64.bits (x.toNat : Int) = x := by
    show BitVec.ofInt 64 (x.toNat : Int) = x
    rw [BitVec.ofInt_natCast, BitVec.ofNat_toNat, BitVec.setWidth_eq]
  have hy : BitVec.ofInt IntKind.u64.bits (y.toNat : Int) = y := by
    show BitVec.ofInt 64 (y.toNat : Int) = y
    rw [BitVec.ofInt_natCast, BitVec.ofNat_toNat, BitVec.setWidth_eq]
  simp only [hx, hy]
  exact wrap_lane _
theorem xor64 (x y : Lane) : bits .xor .u64 (x.toNat : Int) (y.toNat : Int) = ((x ^^^ y).toNat : Int) := bits_lane .xor x y
theorem or64 (x y : Lane) : bits .or .u64 (x.toNat : Int) (y.toNat : Int) = ((x ||| y).toNat : Int) := bits_lane .or x y
theorem and64 (x y : Lane) : bits .and .u64 (x.toNat : Int) (y.toNat : Int) = ((x &&& y).toNat : Int) := bits_lane .and x y
theorem andNot64 (x y : Lane) : bits .andNot .u64 (x.toNat : Int) (y.toNat : Int) = ((x &&& ~~~ y).toNat : Int) := bits_lane .andNot x y
theorem shl64 (x : Lane) (n : Nat) : IntKind.u64.wrap ((x.toNat : Int) * 2 ^ n) = ((x <<< n).toNat : Int) := by
  rw [IntKind.wrap_u64, BitVec.toNat_shiftLeft, Nat.shiftLeft_eq]
  have e : (x.toNat : Int) * 2 ^ n = ((x.toNat * 2 ^ n : Nat) : Int) := by simp
  rw [e]
  have : (2 : Nat) ^ 64 = 18446744073709551616 := by decide
  rw [this]; omega
theorem shr64 (x : Lane) (n : Nat) : (x.toNat : Int) / 2 ^ n = ((x >>> n).toNat : Int) := by
  rw [BitVec.toNat_ushiftRight, Nat.shiftRight_eq_div_pow]
  simp
/-- Turned left. -/
def rotl (x : Lane) (n : Nat) : Lane := x <<< n ||| x >>> (64 - n)
theorem rotl_zero (x : Lane) : rotl x 0 = x := by
  have h : x >>> 64 = 0#64 := by
    apply BitVec.eq_of_toNat_eq
    rw [BitVec.toNat_ushiftRight, Nat.shiftRight_eq_div_pow, Nat.div_eq_of_lt x.isLt]
    rfl
  unfold rotl
  simp [h]

/-- The exclusive or of a column. -/
def col (a : Nat → Lane) (x : Nat) : Lane := a x ^^^ a (x + 5) ^^^ a (x + 10) ^^^ a (x + 15) ^^^ a (x + 20)
/-- What the first k places give to a column. -/
def colK (a : Nat → Lane) : Nat → Nat → Lane
  | 0, _ => 0
  | k + 1, x => if x = k % 5 then colK a k x ^^^ a k else colK a k x
theorem colK_all (a : Nat → Lane) (x : Nat) (h : x < 5) : colK a 25 x = col a x := by
  match x, h with
  | 0, _ => simp [colK, col]
  | 1, _ => simp [colK, col]
  | 2, _ => simp [colK, col]
  | 3, _ => simp [colK, col]
  | 4, _ => simp [colK, col]
/-- The columns mixed into each lane. -/
def th (a : Nat → Lane) (i : Nat) : Lane := a i ^^^ (col a ((i + 4) % 5) ^^^ rotl (col a ((i + 1) % 5)) 1)
/-- The shifts. -/
def shl : List Nat := [0, 1, 62, 28, 27, 36, 44, 6, 55, 20, 3, 10, 43, 25, 39, 41, 45, 15, 21, 8, 18, 2, 61, 56, 14]
def sh (i : Nat) : Nat := shl.getD i 0
theorem sh_le (i : Nat) : sh i ≤ 62 := by
  unfold sh
  by_cases h : i < 25
  · have : ∀ i : Fin 25, shl.getD i.val 0 ≤ 62 := by decide
    exact this ⟨i, h⟩
  · rw [List.getD_eq_getElem?_getD, List.getElem?_eq_none (by simp [shl]; omega)]; simp
/-- Where what comes to place i stood: its x, its y. -/
def sx (i : Nat) : Nat := (3 * (i / 5) + i % 5) % 5
def src (i : Nat) : Nat := sx i + 5 * (i % 5)
/-- Turned and moved. -/
def pm (a : Nat → Lane) (i : Nat) : Lane := rotl (a (src i)) (sh (src i))
theorem src_at : ∀ x : Fin 5, ∀ y : Fin 5, sx (y.val + 5 * ((2 * x.val + 3 * y.val) % 5)) = x.val ∧ (y.val + 5 * ((2 * x.val + 3 * y.val) % 5)) % 5 = y.val := by decide
theorem src_only : ∀ x : Fin 5, ∀ y : Fin 5, ∀ i : Fin 25, sx i.val = x.val → i.val % 5 = y.val → i.val = y.val + 5 * ((2 * x.val + 3 * y.val) % 5) := by decide
theorem sx_lt (i : Nat) : sx i < 5 := by unfold sx; omega
/-- Rows mixed. -/
def ch (b : Nat → Lane) (i : Nat) : Lane := b i ^^^ (b (i / 5 * 5 + (i % 5 + 2) % 5) &&& ~~~ b (i / 5 * 5 + (i % 5 + 1) % 5))
/-- The rounds' constants. -/
def rcl : List Nat := [1, 32898, 9223372036854808714, 9223372039002292224, 32907, 2147483649, 9223372039002292353, 9223372036854808585, 138, 136, 2147516425, 2147483658, 2147516555, 9223372036854775947, 9223372036854808713, 9223372036854808579, 9223372036854808578, 9223372036854775936, 32778, 9223372039002259466, 9223372039002292353, 9223372036854808704, 2147483649, 9223372039002292232]
def rcn (r : Nat) : Nat := rcl.getD r 0
theorem rcn_lt (r : Nat) : rcn r < 2 ^ 64 := by
  unfold rcn
  by_cases h : r < 24
  · have : ∀ i : Fin 24, rcl.getD i.val 0 < 2 ^ 64 := by decide
    exact this ⟨r, h⟩
  · rw [List.getD_eq_getElem?_getD, List.getElem?_eq_none (by simp [rcl]; omega)]; simp
def rcb (r : Nat) : Lane := BitVec.ofNat 64 (rcn r)
theorem rcb_nat (r : Nat) : (rcb r).toNat = rcn r := by unfold rcb; rw [BitVec.toNat_ofNat, Nat.mod_eq_of_lt (rcn_lt r)]
/-- A round. -/
def rnd (r : Nat) (a : Nat → Lane) (i : Nat) : Lane := if i = 0 then ch (pm (th a)) 0 ^^^ rcb r else ch (pm (th a)) i
/-- k rounds. -/
def prm (a : Nat → Lane) : Nat → Nat → Lane
  | 0 => a
  | k + 1 => rnd k (prm a k)
/-- Only the first 25 lanes count. -/
def same (a b : Nat → Lane) : Prop := ∀ i, i < 25 → a i = b i
theorem col_same {a b : Nat → Lane} (h : same a b) (x : Nat) (hx : x < 5) : col a x = col b x := by
  unfold col; rw [h _ (by omega), h _ (by omega), h _ (by omega), h _ (by omega), h _ (by omega)]
theorem rnd_same {a b : Nat → Lane} (h : same a b) (r : Nat) : same (rnd r a) (rnd r b) := by
  have h1 : same (th a) (th b) := fun i hi => by unfold th; rw [h i hi, col_same h _ (by omega), col_same h _ (by omega)]
  have h2 : same (pm (th a)) (pm (th b)) := fun i hi => by
    unfold pm; rw [h1 _ (by unfold src; have := sx_lt i; omega)]
  have h3 : same (ch (pm (th a))) (ch (pm (th b))) := fun i hi => by
    unfold ch; rw [h2 _ hi, h2 _ (by omega), h2 _ (by omega)]
  intro i hi
  unfold rnd
  split
  · rw [h3 0 (by omega)]
  · exact h3 i hi
theorem prm_same {a b : Nat → Lane} (h : same a b) : ∀ k, same (prm a k) (prm b k)
  | 0 => h
  | k + 1 => rnd_same (prm_same h k) k

/-- Byte k of a text, at its place in its lane. -/
def bl (z : Nat → Int) (k : Nat) : Lane := BitVec.ofInt 64 (z k) <<< (8 * (k % 8))
/-- The first k bytes of a text exclusive-ored into lanes. -/
def tk (a : Nat → Lane) (z : Nat → Int) : Nat → Nat → Lane
  | 0, j => a j
  | k + 1, j => if j = k / 8 then tk a z k j ^^^ bl z k else tk a z k j
/-- The lanes of the first k bytes. -/
def ln (z : Nat → Int) : Nat → Nat → Lane
  | 0, _ => 0
  | k + 1, j => if j = k / 8 then ln z k j ||| bl z k else ln z k j
/-- Byte i of lanes. -/
def by8 (a : Nat → Lane) (i : Nat) : Nat := (a (i / 8) >>> (8 * (i % 8))).toNat % 256

end Go.Proofs.YtkpohajmcngjcaaDoor

namespace Go.Proofs.YtkpohajmcngjcaaDoor
open Go.RowKit

/-- Lanes as values. -/
def lv (a : Nat → Lane) (i : Nat) : Value := lw (a i)
theorem lv_one (a : Nat → Lane) (i : Nat) : (lv a i).oneCell' = true := rfl
/-- The lanes of a state, by value. -/
def la (a : Nat → Lane) : Array Value := rowA 25 (lv a)

end Go.Proofs.YtkpohajmcngjcaaDoor
