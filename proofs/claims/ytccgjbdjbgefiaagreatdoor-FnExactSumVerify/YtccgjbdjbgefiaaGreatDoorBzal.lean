/- Several texts in one: Bytes of texts, and what is converted: words and laws. No condition. · Keccak's permutation and its bytes, as plain functions on lanes of 64 bits; numbers that the model of the language reckons, as such lanes. No program is named here. · Words on memory: whole arrays by value, out of rows and into rows. No program is named here. · Padded messages, blocks and what the hash is: plain functions. No program is named here. -/
import Derived.Test.YtccgjbdjbgefiaaGreatDoorRows
import Derived.Test.YtccgjbdjbgefiaaGreatDoorBzae
import Derived.WalkKit
import Derived.ProofKit
import Derived.OpenShut
import Derived.OwnWalk
import Derived.Laws.BytesArg
import Derived.Laws.Bits64b
import Derived.Laws.Bits64
import Derived.Test.YtccgjbdjbgefiaaGreatDoorBzam
import Derived.Laws.Rows
import Derived.Laws.Tables
import Derived.Deep.WholeRow
namespace Go.Proofs.YtccgjbdjbgefiaaGreatDoor
open Go.ChangeShapes Go.WideShapes Go.ChangeAt Go.RowKit
set_option linter.unusedVariables false
set_option linter.unusedSimpArgs false

/-- Byte i of a string. -/
def zs (s : ByteArray) (i : Nat) : Int := ((s.data.toList[i]?.getD 0).toNat : Int)
theorem zs_lo (s : ByteArray) (i : Nat) : 0 ≤ zs s i := by unfold zs; omega
theorem zs_hi (s : ByteArray) (i : Nat) : zs s i < 256 := by unfold zs; have := UInt8.toNat_lt (s.data.toList[i]?.getD 0); omega
theorem zs_at (s : ByteArray) (i : Nat) (h : i < s.size) : (s[i].toNat : Int) = zs s i := by
  unfold zs
  have e : s.data.toList[i]? = some s[i] := by
    rw [List.getElem?_eq_getElem (by simpa using h)]
    rfl
  rw [e]
  rfl
/-- Bytes as values. -/
def bb (z : Nat → Int) (i : Nat) : Value := .int .u8 (z i)
/-- Numbers as a text. -/
def bt (z : Nat → Int) (n : Nat) : ByteArray := strOfNums ((List.range n).map z)
theorem bt_size (z : Nat → Int) (n : Nat) : (bt z n).size = n := by unfold bt; rw [strOfNums_size]; simp
theorem bt_zs (z : Nat → Int) (n i : Nat) (hi : i < n) (h0 : 0 ≤ z i) (h1 : z i < 256) : zs (bt z n) i = z i := by
  unfold zs bt
  rw [strOfNums_data, List.getElem?_map, List.getElem?_map, List.getElem?_range hi]
  simp
  omega
theorem bt_congr {y z : Nat → Int} {n : Nat} (h : ∀ i, i < n → y i = z i) : bt y n = bt z n := by
  unfold bt
  congr 1
  exact List.map_congr_left (fun i hi => h i (by simpa using hi))
theorem RowV.all {w : World} {c : Option Addr} {n : Nat} {f : Nat → Value} (h : RowV w c n f) (hn : 0 < n) : ∃ xb xo : Nat, c = some ⟨xb, xo, none⟩ ∧ xb < w.heap.size ∧ ∀ i, i < n → w.cell? ⟨xb, xo + i, none⟩ = some (f i) := by
  obtain ⟨xb, xo, e, l, _⟩ := h 0 hn
  refine ⟨xb, xo, e, l, fun i hi => ?_⟩
  obtain ⟨xb', xo', e', _, hc⟩ := h i hi
  rw [e] at e'
  obtain ⟨rfl, rfl⟩ : xb = xb' ∧ xo = xo' := by simpa using e'
  exact hc
theorem convB (c : Option Addr) (n cap : Nat) (z : Nat → Int) (w : World) (h : RowV w c n (bb z)) :
    (convert 86 9 (.slice c n cap)).run Tryz.prog w = .ok (.string (bt z n)) w := by
  by_cases hn : n = 0
  · subst hn
    cases c with
    | none =>
      rw [run_convert_bytes_nil w 86 5 Tryz.underlying86 Tryz.underlying5 0 cap 9 Tryz.underlying9]
      rfl
    | some a =>
      rw [run_convert_bytes_string w 86 9 5 _ 0 cap Tryz.underlying86 Tryz.underlying5 Tryz.underlying9, run_bytesToString w a 0 cap [] (by simp [loadCells, loadCellsFrom])]
      rfl
  · obtain ⟨xb, xo, rfl, hxb, hc⟩ := h.all (by omega)
    exact run_convert_bytes_arg w 86 5 Tryz.underlying86 Tryz.underlying5 xb xo n cap ((List.range n).map z) (by simp) (fun i hi => by rw [hc i hi]; simp [bb, List.getD, List.getElem?_map, List.getElem?_range hi]) 9 Tryz.underlying9

theorem infoB : (Tryz.prog.info? 5).map (fun i => (i.zero, i.size, i.bytes)) = some (some (.int .u8 0), 1, 1) := by kernel_rfl

theorem owns_new (w : World) (B : Nat) (t : TypeId) (z : Nat) (hB : B ≤ w.heap.size) : (w.alloc (.cells #[] t)).ownsRow B t z (.slice (some ⟨w.heap.size, 0, none⟩) 0 0) 0 [] :=
  ⟨by simp, .inr ⟨w.heap.size, 0, #[], rfl, hB, Array.getElem?_push_size, Nat.le_refl _, Nat.zero_le _, by simp, by simp⟩⟩
theorem bytes_snoc (z : Nat → Int) (k : Nat) : (List.range k).map (bb z) ++ [.int .u8 (z k)] = (List.range (k + 1)).map (bb z) := by
  rw [List.range_succ, List.map_append]; rfl
/-- What is owned can be read. -/
theorem rowV_of_owns {w : World} {B n : Nat} {t : TypeId} {v : Value} {h : Nat → Value} (ho : w.ownsRow B t 1 v n ((List.range n).map h)) (hn : 0 < n) : ∃ (b cap : Nat), v = .slice (some ⟨b, 0, none⟩) n cap ∧ B ≤ b ∧ b < w.heap.size ∧ RowV w (some ⟨b, 0, none⟩) n h := by
  rcases ho.2 with ⟨_, h0⟩ | ⟨g, cap, cur, rfl, hb, hcur, _⟩
  · exact absurd h0 (by omega)
  · refine ⟨g, cap, rfl, hb, (Array.getElem?_eq_some_iff.1 hcur).1, fun i hi => ⟨g, 0, rfl, (Array.getElem?_eq_some_iff.1 hcur).1, ?_⟩⟩
    have := ho.cells rfl i (h i) (by simp [List.getElem?_map, List.getElem?_range hi])
    rw [Go.WideShapes.add_plain] at this
    exact this


end Go.Proofs.YtccgjbdjbgefiaaGreatDoor

namespace Go.Proofs.YtccgjbdjbgefiaaGreatDoor

abbrev Lane := BitVec 64
/-- A lane as a value. -/
def lw (x : Lane) : Value := .int .u64 (x.toNat : Int)
theorem lane_lt (x : Lane) : (x.toNat : Int) < 18446744073709551616 := by have := x.isLt; omega
theorem wrap_lane (x : Lane) : IntKind.u64.wrap (x.toNat : Int) = (x.toNat : Int) := by
  rw [IntKind.wrap_u64]; have := lane_lt x; omega
theorem bits_lane (op : BinOp) (x y : Lane) : bits op .u64 (x.toNat : Int) (y.toNat : Int) = ((match op with | .and => x &&& y | .or => x ||| y | .xor => x ^^^ y | _ => x &&& ~~~ y : Lane).toNat : Int) := by
  unfold bits
  have hx : BitVec.ofInt IntKind.u64.bits (x.toNat : Int) = x := by
    show BitVec.ofInt 64 (x.toNat : Int) = x
    rw [BitVec.ofInt_natCast, BitVec.ofNat_toNat, BitVec.setWidth_eq]
  have hy : BitVec.ofInt IntKind.u64.bits (y.toNat : Int) = y := by
    show BitVec.ofInt 64 (y.toNat : Int) = y
    rw [BitVec.ofInt_natCast, BitVec.ofNat_toNat, BitVec.setWidth_eq]
  simp only [hx, hy]
  exact wrap_lane _
theorem xor64 (x y : Lane) : bits .xor .u64 (x.toNat : Int) (y.toNat : Int) = ((x ^^^ y).toNat : Int) := bits_lane .xor x y
theorem or64 (x y : Lane) : bits .or .u64 (x.toNat : Int) (y.toNat : Int) = ((x ||| y).toNat : Int) := bits_lane .or x y
theorem and64 (x y : Lane) : bits .and .u64 (x.toNat : Int) (y.toNat : Int) = ((x &&& y).toNat : Int) := bits_lane .and x y
theorem andNot64 (x y : Lane) : bits .andNot .u64 (x.toNat : Int) (y.toNat : Int) = ((x &&& ~~~ y).toNat : Int) := bits_lane .andNot x y
theorem shl64 (x : Lane) (n : Nat) : IntKind.u64.wrap ((x.toNat : Int) * 2 ^ n) = ((x <<< n).toNat : Int) := by
  rw [IntKind.wrap_u64, BitVec.toNat_shiftLeft, Nat.shiftLeft_eq]
  have e : (x.toNat : Int) * 2 ^ n = ((x.toNat * 2 ^ n : Nat) : Int) := by simp
  rw [e]
  have : (2 : Nat) ^ 64 = 18446744073709551616 := by decide
  rw [this]; omega
theorem shr64 (x : Lane) (n : Nat) : (x.toNat : Int) / 2 ^ n = ((x >>> n).toNat : Int) := by
  rw [BitVec.toNat_ushiftRight, Nat.shiftRight_eq_div_pow]
  simp
/-- Turned left. -/
def rotl (x : Lane) (n : Nat) : Lane := x <<< n ||| x >>> (64 - n)
theorem rotl_zero (x : Lane) : rotl x 0 = x := by
  have h : x >>> 64 = 0#64 := by
    apply BitVec.eq_of_toNat_eq
    rw [BitVec.toNat_ushiftRight, Nat.shiftRight_eq_div_pow, Nat.div_eq_of_lt x.isLt]
    rfl
  unfold rotl
  simp [h]

/-- The exclusive or of a column. -/
def col (a : Nat → Lane) (x : Nat) : Lane := a x ^^^ a (x + 5) ^^^ a (x + 10) ^^^ a (x + 15) ^^^ a (x + 20)
/-- What the first k places give to a column. -/
def colK (a : Nat → Lane) : Nat → Nat → Lane
  | 0, _ => 0
  | k + 1, x => if x = k % 5 then colK a k x ^^^ a k else colK a k x
theorem colK_all (a : Nat → Lane) (x : Nat) (h : x < 5) : colK a 25 x = col a x := by
  match x, h with
  | 0, _ => simp [colK, col]
  | 1, _ => simp [colK, col]
  | 2, _ => simp [colK, col]
  | 3, _ => simp [colK, col]
  | 4, _ => simp [colK, col]
/-- The columns mixed into each lane. -/
def th (a : Nat → Lane) (i : Nat) : Lane := a i ^^^ (col a ((i + 4) % 5) ^^^ rotl (col a ((i + 1) % 5)) 1)
/-- The shifts. -/
def shl : List Nat := [0, 1, 62, 28, 27, 36, 44, 6, 55, 20, 3, 10, 43, 25, 39, 41, 45, 15, 21, 8, 18, 2, 61, 56, 14]
def sh (i : Nat) : Nat := shl.getD i 0
theorem sh_le (i : Nat) : sh i ≤ 62 := by
  unfold sh
  by_cases h : i < 25
  · have : ∀ i : Fin 25, shl.getD i.val 0 ≤ 62 := by decide
    exact this ⟨i, h⟩
  · rw [List.getD_eq_getElem?_getD, List.getElem?_eq_none (by simp [shl]; omega)]; simp
/-- Where what comes to place i stood: its x, its y. -/
def sx (i : Nat) : Nat := (3 * (i / 5) + i % 5) % 5
def src (i : Nat) : Nat := sx i + 5 * (i % 5)
/-- Turned and moved. -/
def pm (a : Nat → Lane) (i : Nat) : Lane := rotl (a (src i)) (sh (src i))
theorem src_at : ∀ x : Fin 5, ∀ y : Fin 5, sx (y.val + 5 * ((2 * x.val + 3 * y.val) % 5)) = x.val ∧ (y.val + 5 * ((2 * x.val + 3 * y.val) % 5)) % 5 = y.val := by decide
theorem src_only : ∀ x : Fin 5, ∀ y : Fin 5, ∀ i : Fin 25, sx i.val = x.val → i.val % 5 = y.val → i.val = y.val + 5 * ((2 * x.val + 3 * y.val) % 5) := by decide
theorem sx_lt (i : Nat) : sx i < 5 := by unfold sx; omega
/-- Rows mixed. -/
def ch (b : Nat → Lane) (i : Nat) : Lane := b i ^^^ (b (i / 5 * 5 + (i % 5 + 2) % 5) &&& ~~~ b (i / 5 * 5 + (i % 5 + 1) % 5))
/-- The rounds' constants. -/
def rcl : List Nat := [1, 32898, 9223372036854808714, 9223372039002292224, 32907, 2147483649, 9223372039002292353, 9223372036854808585, 138, 136, 2147516425, 2147483658, 2147516555, 9223372036854775947, 9223372036854808713, 9223372036854808579, 9223372036854808578, 9223372036854775936, 32778, 9223372039002259466, 9223372039002292353, 9223372036854808704, 2147483649, 9223372039002292232]
def rcn (r : Nat) : Nat := rcl.getD r 0
theorem rcn_lt (r : Nat) : rcn r < 2 ^ 64 := by
  unfold rcn
  by_cases h : r < 24
  · have : ∀ i : Fin 24, rcl.getD i.val 0 < 2 ^ 64 := by decide
    exact this ⟨r, h⟩
  · rw [List.getD_eq_getElem?_getD, List.getElem?_eq_none (by simp [rcl]; omega)]; simp
def rcb (r : Nat) : Lane := BitVec.ofNat 64 (rcn r)
theorem rcb_nat (r : Nat) : (rcb r).toNat = rcn r := by unfold rcb; rw [BitVec.toNat_ofNat, Nat.mod_eq_of_lt (rcn_lt r)]
/-- A round. -/
def rnd (r : Nat) (a : Nat → Lane) (i : Nat) : Lane := if i = 0 then ch (pm (th a)) 0 ^^^ rcb r else ch (pm (th a)) i
/-- k rounds. -/
def prm (a : Nat → Lane) : Nat → Nat → Lane
  | 0 => a
  | k + 1 => rnd k (prm a k)
/-- Only the first 25 lanes count. -/
def same (a b : Nat → Lane) : Prop := ∀ i, i < 25 → a i = b i
theorem col_same {a b : Nat → Lane} (h : same a b) (x : Nat) (hx : x < 5) : col a x = col b x := by
  unfold col; rw [h _ (by omega), h _ (by omega), h _ (by omega), h _ (by omega), h _ (by omega)]
theorem rnd_same {a b : Nat → Lane} (h : same a b) (r : Nat) : same (rnd r a) (rnd r b) := by
  have h1 : same (th a) (th b) := fun i hi => by unfold th; rw [h i hi, col_same h _ (by omega), col_same h _ (by omega)]
  have h2 : same (pm (th a)) (pm (th b)) := fun i hi => by
    unfold pm; rw [h1 _ (by unfold src; have := sx_lt i; omega)]
  have h3 : same (ch (pm (th a))) (ch (pm (th b))) := fun i hi => by
    unfold ch; rw [h2 _ hi, h2 _ (by omega), h2 _ (by omega)]
  intro i hi
  unfold rnd
  split
  · rw [h3 0 (by omega)]
  · exact h3 i hi
theorem prm_same {a b : Nat → Lane} (h : same a b) : ∀ k, same (prm a k) (prm b k)
  | 0 => h
  | k + 1 => rnd_same (prm_same h k) k

/-- Byte k of a text, at its place in its lane. -/
def bl (z : Nat → Int) (k : Nat) : Lane := BitVec.ofInt 64 (z k) <<< (8 * (k % 8))
/-- The first k bytes of a text exclusive-ored into lanes. -/
def tk (a : Nat → Lane) (z : Nat → Int) : Nat → Nat → Lane
  | 0, j => a j
  | k + 1, j => if j = k / 8 then tk a z k j ^^^ bl z k else tk a z k j
/-- The lanes of the first k bytes. -/
def ln (z : Nat → Int) : Nat → Nat → Lane
  | 0, _ => 0
  | k + 1, j => if j = k / 8 then ln z k j ||| bl z k else ln z k j
/-- Byte i of lanes. -/
def by8 (a : Nat → Lane) (i : Nat) : Nat := (a (i / 8) >>> (8 * (i % 8))).toNat % 256

end Go.Proofs.YtccgjbdjbgefiaaGreatDoor

namespace Go.Proofs.YtccgjbdjbgefiaaGreatDoor
open Go.RowKit

/-- Lanes as values. -/
def lv (a : Nat → Lane) (i : Nat) : Value := lw (a i)
theorem lv_one (a : Nat → Lane) (i : Nat) : (lv a i).oneCell' = true := rfl
/-- The lanes of a state, by value. -/
def la (a : Nat → Lane) : Array Value := rowA 25 (lv a)

end Go.Proofs.YtccgjbdjbgefiaaGreatDoor

namespace Go.Proofs.YtccgjbdjbgefiaaGreatDoor

/-- Numbers that are bytes. -/
def isB (z : Nat → Int) : Prop := ∀ i, 0 ≤ z i ∧ z i < 256
theorem bl_lt (z : Nat → Int) (hz : isB z) (k : Nat) : (bl z k).toNat < 2 ^ (8 * (k % 8) + 8) := by
  obtain ⟨n, hn⟩ := Int.eq_ofNat_of_zero_le (hz k).1
  have h1 := (hz k).2
  unfold bl
  rw [hn, BitVec.ofInt_natCast, BitVec.toNat_shiftLeft, BitVec.toNat_ofNat, Nat.shiftLeft_eq]
  have h2 : n % 2 ^ 64 ≤ n := Nat.mod_le _ _
  have h3 : n < 2 ^ 8 := by omega
  refine Nat.lt_of_le_of_lt (Nat.mod_le _ _) ?_
  rw [Nat.pow_add, Nat.mul_comm]
  exact Nat.mul_lt_mul_of_pos_left (Nat.lt_of_le_of_lt h2 h3) (Nat.two_pow_pos _)
theorem ln_lo (z : Nat → Int) (hz : isB z) : ∀ k j, (k / 8 < j → ln z k j = 0) ∧ (j = k / 8 → (ln z k j).toNat < 2 ^ (8 * (k % 8)))
  | 0, j => ⟨fun _ => rfl, fun _ => by simp [ln]⟩
  | k + 1, j => by
    obtain ⟨h1, h2⟩ := ln_lo z hz k j
    rw [ln]
    refine ⟨fun h => ?_, fun h => ?_⟩
    · rw [if_neg (by omega)]
      exact h1 (by omega)
    · by_cases h8 : (k + 1) % 8 = 0
      · rw [if_neg (by omega), h1 (by omega), h8]
        simp
      · rw [if_pos (by omega), BitVec.toNat_or]
        have e : 8 * ((k + 1) % 8) = 8 * (k % 8) + 8 := by omega
        rw [e]
        refine Nat.or_lt_two_pow (Nat.lt_of_lt_of_le (h2 (by omega)) (Nat.pow_le_pow_right (by decide) (by omega))) (bl_lt z hz k)
theorem or_xor (x y : Lane) (m : Nat) (hx : x.toNat < 2 ^ m) (hy : ∀ i, i < m → y.getLsbD i = false) : x ||| y = x ^^^ y := by
  apply BitVec.eq_of_getLsbD_eq
  intro i hi
  rw [BitVec.getLsbD_or, BitVec.getLsbD_xor]
  by_cases h : i < m
  · rw [hy i h]; simp
  · have : x.getLsbD i = false := by
      rw [← BitVec.testBit_toNat]
      exact Nat.testBit_lt_two_pow (Nat.lt_of_lt_of_le hx (Nat.pow_le_pow_right (by decide) (by omega)))
    rw [this]; simp
theorem bl_low (z : Nat → Int) (k i : Nat) (h : i < 8 * (k % 8)) : (bl z k).getLsbD i = false := by
  unfold bl
  rw [BitVec.getLsbD_shiftLeft]
  simp [h]
/-- A text is taken in lane by lane. -/
theorem tk_ln (a : Nat → Lane) (z : Nat → Int) (hz : isB z) : ∀ k j, tk a z k j = a j ^^^ ln z k j
  | 0, j => by simp [tk, ln]
  | k + 1, j => by
    rw [tk, ln]
    by_cases h : j = k / 8
    · rw [if_pos h, if_pos h, tk_ln a z hz k j, or_xor _ _ (8 * (k % 8)) ((ln_lo z hz k j).2 h) (fun i hi => bl_low z k i hi), BitVec.xor_assoc]
    · rw [if_neg h, if_neg h, tk_ln a z hz k j]
theorem ln_congr {y z : Nat → Int} : ∀ {k : Nat}, (∀ i, i < k → y i = z i) → ∀ j, ln y k j = ln z k j
  | 0, _, _ => rfl
  | k + 1, h, j => by
    have e : bl y k = bl z k := by unfold bl; rw [h k (by omega)]
    rw [ln, ln, ln_congr (fun i hi => h i (by omega)) j, e]
theorem tk_congr {y z : Nat → Int} (a : Nat → Lane) : ∀ {k : Nat}, (∀ i, i < k → y i = z i) → ∀ j, tk a y k j = tk a z k j
  | 0, _, _ => rfl
  | k + 1, h, j => by
    have e : bl y k = bl z k := by unfold bl; rw [h k (by omega)]
    rw [tk, tk, tk_congr a (fun i hi => h i (by omega)) j, e]

/-- The message with a byte 1 behind it, and noughts. -/
def pz (z : Nat → Int) (n i : Nat) : Int := if i < n then z i else if i = n then 1 else 0
/-- How many bytes that makes. -/
def pn (n : Nat) : Nat := (n / 136 + 1) * 136
/-- The same with the last byte's highest bit set. -/
def pd (z : Nat → Int) (n i : Nat) : Int := if i = pn n - 1 then pz z n i + 128 else pz z n i
theorem pn_gt (n : Nat) : n < pn n := by unfold pn; omega
theorem pn_le (n : Nat) : pn n ≤ n + 136 := by unfold pn; omega
theorem pz_B (z : Nat → Int) (n : Nat) (hz : isB z) : isB (pz z n) := fun i => by
  unfold pz
  split
  · exact hz i
  · split <;> omega
theorem pz_end (z : Nat → Int) (n i : Nat) (h : n ≤ i) : 0 ≤ pz z n i ∧ pz z n i ≤ 1 := by
  unfold pz
  rw [if_neg (by omega)]
  split <;> omega
theorem pd_B (z : Nat → Int) (n : Nat) (hz : isB z) : isB (pd z n) := fun i => by
  unfold pd
  split
  · rename_i h
    have h1 := pn_gt n
    have h2 := pz_end z n i (by omega)
    omega
  · exact pz_B z n hz i
/-- Block j of a padded message. -/
def blk (P : Nat → Int) (j i : Nat) : Int := P (136 * j + i)
theorem blk_B (P : Nat → Int) (h : isB P) (j : Nat) : isB (blk P j) := fun _ => h _
/-- The state behind j blocks. -/
def hst (P : Nat → Int) : Nat → Nat → Lane
  | 0 => fun _ => 0
  | j + 1 => prm (fun l => hst P j l ^^^ ln (blk P j) 136 l) 24
theorem hst_take (P : Nat → Int) (hP : isB P) (j : Nat) (y : Nat → Int) (hy : ∀ i, i < 136 → y i = blk P j i) : same (prm (tk (hst P j) y 136) 24) (hst P (j + 1)) := by
  show same _ (prm (fun l => hst P j l ^^^ ln (blk P j) 136 l) 24)
  apply prm_same
  intro i _
  rw [tk_congr (hst P j) hy i, tk_ln _ _ (blk_B P hP j)]

end Go.Proofs.YtccgjbdjbgefiaaGreatDoor
