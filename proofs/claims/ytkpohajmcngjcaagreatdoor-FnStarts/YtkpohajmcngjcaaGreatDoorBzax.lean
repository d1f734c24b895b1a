/- Several texts in one: Keccak's permutation and its bytes, as plain functions on lanes of 64 bits; numbers that the model of the language reckons, as such lanes. No program is named here. · Words on memory: whole arrays by value, out of rows and into rows. No program is named here. · Padded messages, blocks and what the hash is: plain functions. No program is named here. · What lastBlock answers: a contract. Condition: fewer than 136 bytes that can be read. -/
import Derived.Laws.Bits64b
import Derived.Laws.Bits64
import Derived.Test.YtkpohajmcngjcaaGreatDoorBzaa
import Derived.Test.YtkpohajmcngjcaaGreatDoorBzat
import Derived.WalkKit
import Derived.Laws.Rows
import Derived.Laws.Tables
import Derived.Deep.WholeRow
import Derived.Laws.CopyOwn
namespace Go.Proofs.YtkpohajmcngjcaaGreatDoor

abbrev Lane := BitVec 64
/-- A lane as a value. -/
def lw (x : Lane) : Value := .int .u64 (x.toNat : Int)
theorem lane_lt (x : Lane) : (x.toNat : Int) < 18446744073709551616 := by have := x.isLt; omega
theorem wrap_lane (x : Lane) : IntKind.u64.wrap (x.toNat : Int) = (x.toNat : Int) := by
  rw [IntKind.wrap_u64]; have := lane_lt x; omega
theorem bits_lane (op : BinOp) (x y : Lane) : bits op .u64 (x.toNat : Int) (y.toNat : Int) = ((match op with | .and => x &&& y | .or => x ||| y | .xor => x ^^^ y | _ => x &&& ~~~ y : Lane).toNat : Int) := by
  unfold bits
  have hx : BitVec.ofInt IntKind.u64.bits (x.toNat : Int) = x := by
    show BitVec.ofInt 64 (x.toNat : Int) = x
    rw [BitVec.ofInt_natCast, BitVec.ofNat_toNat, BitVec.setWidth_eq]
  have hy : BitVec.ofInt IntKind.u64.bits (y.toNat : Int) = y := by
    show BitVec.ofInt 64 (y.toNat : Int) = y
    rw [BitVec.ofInt_natCast, BitVec.ofNat_toNat, BitVec.setWidth_eq]
  simp only [hx, hy]
  exact wrap_lane _
theorem xor64 (x y : Lane) : bits .xor .u64 (x.toNat : Int) (y.toNat : Int) = ((x ^^^ y).toNat : Int) := bits_lane .xor x y
theorem or64 (x y : Lane) : bits .or .u64 (x.toNat : Int) (y.toNat : Int) = ((x ||| y).toNat : Int) := bits_lane .or x y
theorem and64 (x y : Lane) : bits .and .u64 (x.toNat : Int) (y.toNat : Int) = ((x &&& y).toNat : Int) := bits_lane .and x y
theorem andNot64 (x y : Lane) : bits .andNot .u64 (x.toNat : Int) (y.toNat : Int) = ((x &&& ~~~ y).toNat : Int) := bits_lane .andNot x y
theorem shl64 (x : Lane) (n : Nat) : IntKind.u64.wrap ((x.toNat : Int) * 2 ^ n) = ((x <<< n).toNat : Int) := by
  rw [IntKind.wrap_u64, BitVec.toNat_shiftLeft, Nat.shiftLeft_eq]
  have e : (x.toNat : Int) * 2 ^ n = ((x.toNat * 2 ^ n : Nat) : Int) := by simp
  rw [e]
  have : (2 : Nat) ^ 64 = 18446744073709551616 := by decide
  rw [this]; omega
theorem shr64 (x : Lane) (n : Nat) : (x.toNat : Int) / 2 ^ n = ((x >>> n).toNat : Int) := by
  rw [BitVec.toNat_ushiftRight, Nat.shiftRight_eq_div_pow]
  simp
/-- Turned left. -/
def rotl (x : Lane) (n : Nat) : Lane := x <<< n ||| x >>> (64 - n)
theorem rotl_zero (x : Lane) : rotl x 0 = x := by
  have h : x >>> 64 = 0#64 := by
    apply BitVec.eq_of_toNat_eq
    rw [BitVec.toNat_ushiftRight, Nat.shiftRight_eq_div_pow, Nat.div_eq_of_lt x.isLt]
    rfl
  unfold rotl
  simp [h]

/-- The exclusive or of a column. -/
def col (a : Nat → Lane) (x : Nat) : Lane := a x ^^^ a (x + 5) ^^^ a (x + 10) ^^^ a (x + 15) ^^^ a (x + 20)
/-- What the first k places give to a column. -/
def colK (a : Nat → Lane) : Nat → Nat → Lane
  | 0, _ => 0
  | k + 1, x => if x = k % 5 then colK a k x ^^^ a k else colK a k x
theorem colK_all (a : Nat → Lane) (x : Nat) (h : x < 5) : colK a 25 x = col a x := by
  match x, h with
  | 0, _ => simp [colK, col]
  | 1, _ => simp [colK, col]
  | 2, _ => simp [colK, col]
  | 3, _ => simp [colK, col]
  | 4, _ => simp [colK, col]
/-- The columns mixed into each lane. -/
def th (a : Nat → Lane) (i : Nat) : Lane := a i ^^^ (col a ((i + 4) % 5) ^^^ rotl (col a ((i + 1) % 5)) 1)
/-- The shifts. -/
def shl : List Nat := [0, 1, 62, 28, 27, 36, 44, 6, 55, 20, 3, 10, 43, 25, 39, 41, 45, 15, 21, 8, 18, 2, 61, 56, 14]
def sh (i : Nat) : Nat := shl.getD i 0
theorem sh_le (i : Nat) : sh i ≤ 62 := by
  unfold sh
  by_cases h : i < 25
  · have : ∀ i : Fin 25, shl.getD i.val 0 ≤ 62 := by decide
    exact this ⟨i, h⟩
  · rw [List.getD_eq_getElem?_getD, List.getElem?_eq_none (by simp [shl]; omega)]; simp
/-- Where what comes to place i stood: its x, its y. -/
def sx (i : Nat) : Nat := (3 * (i / 5) + i % 5) % 5
def src (i : Nat) : Nat := sx i + 5 * (i % 5)
/-- Turned and moved. -/
def pm (a : Nat → Lane) (i : Nat) : Lane := rotl (a (src i)) (sh (src i))
theorem src_at : ∀ x : Fin 5, ∀ y : Fin 5, sx (y.val + 5 * ((2 * x.val + 3 * y.val) % 5)) = x.val ∧ (y.val + 5 * ((2 * x.val + 3 * y.val) % 5)) % 5 = y.val := by decide
theorem src_only : ∀ x : Fin 5, ∀ y : Fin 5, ∀ i : Fin 25, sx i.val = x.val → i.val % 5 = y.val → i.val = y.val + 5 * ((2 * x.val + 3 * y.val) % 5) := by decide
theorem sx_lt (i : Nat) : sx i < 5 := by unfold sx; omega
/-- Rows mixed. -/
def ch (b : Nat → Lane) (i : Nat) : Lane := b i ^^^ (b (i / 5 * 5 + (i % 5 + 2) % 5) &&& ~~~ b (i / 5 * 5 + (i % 5 + 1) % 5))
/-- The rounds' constants. -/
def rcl : List Nat := [1, 32898, 9223372036854808714, 9223372039002292224, 32907, 2147483649, 9223372039002292353, 9223372036854808585, 138, 136, 2147516425, 2147483658, 2147516555, 9223372036854775947, 9223372036854808713, 9223372036854808579, 9223372036854808578, 9223372036854775936, 32778, 9223372039002259466, 9223372039002292353, 9223372036854808704, 2147483649, 9223372039002292232]
def rcn (r : Nat) : Nat := rcl.getD r 0
theorem rcn_lt (r : Nat) : rcn r < 2 ^ 64 := by
  unfold rcn
  by_cases h : r < 24
  · have : ∀ i : Fin 24, rcl.getD i.val 0 < 2 ^ 64 := by decide
    exact this ⟨r, h⟩
  · rw [List.getD_eq_getElem?_getD, List.getElem?_eq_none (by simp [rcl]; omega)]; simp
def rcb (r : Nat) : Lane := BitVec.ofNat 64 (rcn r)
theorem rcb_nat (r : Nat) : (rcb r).toNat = rcn r := by unfold rcb; rw [BitVec.toNat_ofNat, Nat.mod_eq_of_lt (rcn_lt r)]
/-- A round. -/
def rnd (r : Nat) (a : Nat → Lane) (i : Nat) : Lane := if i = 0 then ch (pm (th a)) 0 ^^^ rcb r else ch (pm (th a)) i
/-- k rounds. -/
def prm (a : Nat → Lane) : Nat → Nat → Lane
  | 0 => a
  | k + 1 => rnd k (prm a k)
/-- Only the first 25 lanes count. -/
def same (a b : Nat → Lane) : Prop := ∀ i, i < 25 → a i = b i
theorem col_same {a b : Nat → Lane} (h : same a b) (x : Nat) (hx : x < 5) : col a x = col b x := by
  unfold col; rw [h _ (by omega), h _ (by omega), h _ (by omega), h _ (by omega), h _ (by omega)]
theorem rnd_same {a b : Nat → Lane} (h : same a b) (r : Nat) : same (rnd r a) (rnd r b) := by
  have h1 : same (th a) (th b) := fun i hi => by unfold th; rw [h i hi, col_same h _ (by omega), col_same h _ (by omega)]
  have h2 : same (pm (th a)) (pm (th b)) := fun i hi => by
    unfold pm; rw [h1 _ (by unfold src; have := sx_lt i; omega)]
  have h3 : same (ch (pm (th a))) (ch (pm (th b))) := fun i hi => by
    unfold ch; rw [h2 _ hi, h2 _ (by omega), h2 _ (by omega)]
  intro i hi
  unfold rnd
  split
  · rw [h3 0 (by omega)]
  · exact h3 i hi
theorem prm_same {a b : Nat → Lane} (h : same a b) : ∀ k, same (prm a k) (prm b k)
  | 0 => h
  | k + 1 => rnd_same (prm_same h k) k

/-- Byte k of a text, at its place in its lane. -/
def bl (z : Nat → Int) (k : Nat) : Lane := BitVec.ofInt 64 (z k) <<< (8 * (k % 8))
/-- The first k bytes of a text exclusive-ored into lanes. -/
def tk (a : Nat → Lane) (z : Nat → Int) : Nat → Nat → Lane
  | 0, j => a j
  | k + 1, j => if j = k / 8 then tk a z k j ^^^ bl z k else tk a z k j
/-- The lanes of the first k bytes. -/
def ln (z : Nat → Int) : Nat → Nat → Lane
  | 0, _ => 0
  | k + 1, j => if j = k / 8 then ln z k j ||| bl z k else ln z k j
/-- Byte i of lanes. -/
def by8 (a : Nat → Lane) (i : Nat) : Nat := (a (i / 8) >>> (8 * (i % 8))).toNat % 256

end Go.Proofs.YtkpohajmcngjcaaGreatDoor

namespace Go.Proofs.YtkpohajmcngjcaaGreatDoor
open Go.RowKit

/-- Lanes as values. -/
def lv (a : Nat → Lane) (i : Nat) : Value := lw (a i)
theorem lv_one (a : Nat → Lane) (i : Nat) : (lv a i).oneCell' = true := rfl
/-- The lanes of a state, by value. -/
def la (a : Nat → Lane) : Array Value := rowA 25 (lv a)

end Go.Proofs.YtkpohajmcngjcaaGreatDoor

namespace Go.Proofs.YtkpohajmcngjcaaGreatDoor

/-- Numbers that are bytes. -/
def isB (z : Nat → Int) : Prop := ∀ i, 0 ≤ z i ∧ z i < 256
theorem bl_lt (z : Nat → Int) (hz : isB z) (k : Nat) : (bl z k).toNat < 2 ^ (8 * (k % 8) + 8) := by
  obtain ⟨n, hn⟩ := Int.eq_ofNat_of_zero_le (hz k).1
  have h1 := (hz k).2
  unfold bl
  rw [hn, BitVec.ofInt_natCast, BitVec.toNat_shiftLeft, BitVec.toNat_ofNat, Nat.shiftLeft_eq]
  have h2 : n % 2 ^ 64 ≤ n := Nat.mod_le _ _
  have h3 : n < 2 ^ 8 := by omega
  refine Nat.lt_of_le_of_lt (Nat.mod_le _ _) ?_
  rw [Nat.pow_add, Nat.mul_comm]
  exact Nat.mul_lt_mul_of_pos_left (Nat.lt_of_le_of_lt h2 h3) (Nat.two_pow_pos _)
theorem ln_lo (z : Nat → Int) (hz : isB z) : ∀ k j, (k / 8 < j → ln z k j = 0) ∧ (j = k / 8 → (ln z k j).toNat < 2 ^ (8 * (k % 8)))
  | 0, j => ⟨fun _ => rfl, fun _ => by simp [ln]⟩
  | k + 1, j => by
    obtain ⟨h1, h2⟩ := ln_lo z hz k j
    rw [ln]
    refine ⟨fun h => ?_, fun h => ?_⟩
    · rw [if_neg (by omega)]
      exact h1 (by omega)
    · by_cases h8 : (k + 1) % 8 = 0
      · rw [if_neg (by omega), h1 (by omega), h8]
        simp
      · rw [if_pos (by omega), BitVec.toNat_or]
        have e : 8 * ((k + 1) % 8) = 8 * (k % 8) + 8 := by omega
        rw [e]
        refine Nat.or_lt_two_pow (Nat.lt_of_lt_of_le (h2 (by omega)) (Nat.pow_le_pow_right (by decide) (by omega))) (bl_lt z hz k)
theorem or_xor (x y : Lane) (m : Nat) (hx : x.toNat < 2 ^ m) (hy : ∀ i, i < m → y.getLsbD i = false) : x ||| y = x ^^^ y := by
  apply BitVec.eq_of_getLsbD_eq
  intro i hi
  rw [BitVec.getLsbD_or, BitVec.getLsbD_xor]
  by_cases h : i < m
  · rw [hy i h]; simp
  · have : x.getLsbD i = false := by
      rw [← BitVec.testBit_toNat]
      exact Nat.testBit_lt_two_pow (Nat.lt_of_lt_of_le hx (Nat.pow_le_pow_right (by decide) (by omega)))
    rw [this]; simp
theorem bl_low (z : Nat → Int) (k i : Nat) (h : i < 8 * (k % 8)) : (bl z k).getLsbD i = false := by
  unfold bl
  rw [BitVec.getLsbD_shiftLeft]
  simp [h]
/-- A text is taken in lane by lane. -/
theorem tk_ln (a : Nat → Lane) (z : Nat → Int) (hz : isB z) : ∀ k j, tk a z k j = a j ^^^ ln z k j
  | 0, j => by simp [tk, ln]
  | k + 1, j => by
    rw [tk, ln]
    by_cases h : j = k / 8
    · rw [if_pos h, if_pos h, tk_ln a z hz k j, or_xor _ _ (8 * (k % 8)) ((ln_lo z hz k j).2 h) (fun i hi => bl_low z k i hi), BitVec.xor_assoc]
    · rw [if_neg h, if_neg h, tk_ln a z hz k j]
theorem ln_congr {y z : Nat → Int} : ∀ {k : Nat}, (∀ i, i < k → y i = z i) → ∀ j, ln y k j = ln z k j
  | 0, _, _ => rfl
  | k + 1, h, j => by
    have e : bl y k = bl z k := by unfold bl; rw [h k (by omega)]
    rw [ln, ln, ln_congr (fun i hi => h i (by omega)) j, e]
theorem tk_congr {y z : Nat → Int} (a : Nat → Lane) : ∀ {k : Nat}, (∀ i, i < k → y i = z i) → ∀ j, tk a y k j = tk a z k j
  | 0, _, _ => rfl
  | k + 1, h, j => by
    have e : bl y k = bl z k := by unfold bl; rw [h k (by omega)]
    rw [tk, tk, tk_congr a (fun i hi => h i (by omega)) j, e]

/-- The message with a byte 1 behind it, and noughts. -/
def pz (z : Nat → Int) (n i : Nat) : Int := if i < n then z i else if i = n then 1 else 0
/-- How many bytes that makes. -/
def pn (n : Nat) : Nat := (n / 136 + 1) * 136
/-- The same with the last byte's highest bit set. -/
def pd (z : Nat → Int) (n i : Nat) : Int := if i = pn n - 1 then pz z n i + 128 else pz z n i
theorem pn_gt (n : Nat) : n < pn n := by unfold pn; omega
theorem pn_le (n : Nat) : pn n ≤ n + 136 := by unfold pn; omega
theorem pz_B (z : Nat → Int) (n : Nat) (hz : isB z) : isB (pz z n) := fun i => by
  unfold pz
  split
  · exact hz i
  · split <;> omega
theorem pz_end (z : Nat → Int) (n i : Nat) (h : n ≤ i) : 0 ≤ pz z n i ∧ pz z n i ≤ 1 := by
  unfold pz
  rw [if_neg (by omega)]
  split <;> omega
theorem pd_B (z : Nat → Int) (n : Nat) (hz : isB z) : isB (pd z n) := fun i => by
  unfold pd
  split
  · rename_i h
    have h1 := pn_gt n
    have h2 := pz_end z n i (by omega)
    omega
  · exact pz_B z n hz i
/-- Block j of a padded message. -/
def blk (P : Nat → Int) (j i : Nat) : Int := P (136 * j + i)
theorem blk_B (P : Nat → Int) (h : isB P) (j : Nat) : isB (blk P j) := fun _ => h _
/-- The state behind j blocks. -/
def hst (P : Nat → Int) : Nat → Nat → Lane
  | 0 => fun _ => 0
  | j + 1 => prm (fun l => hst P j l ^^^ ln (blk P j) 136 l) 24
theorem hst_take (P : Nat → Int) (hP : isB P) (j : Nat) (y : Nat → Int) (hy : ∀ i, i < 136 → y i = blk P j i) : same (prm (tk (hst P j) y 136) 24) (hst P (j + 1)) := by
  show same _ (prm (fun l => hst P j l ^^^ ln (blk P j) 136 l) 24)
  apply prm_same
  intro i _
  rw [tk_congr (hst P j) hy i, tk_ln _ _ (blk_B P hP j)]

end Go.Proofs.YtkpohajmcngjcaaGreatDoor

namespace Go.Proofs.YtkpohajmcngjcaaGreatDoor
open Go.ChangeShapes Go.WideShapes Go.ChangeAt Go.RowKit
set_option linter.unusedVariables false
set_option linter.unusedSimpArgs false

theorem setRow_row {w : World} {g : Nat} {old : Array Value} {t : TypeId} (h : w.heap[g]? = some (.cells old t (0, 0))) (c : Array Value) : (w.setRow g c).heap[g]? = some (.cells c t (0, 0)) := by
  simp [World.setRow, Array.getElem?_modify, h]
section
variable {P : Program}
/-- Bytes copied into the beginning of a row. -/
theorem wpList_copy_into {w : World} {ops : Array Oper} {rest : List Oper} {o : Oper} {a : Act} {Q : Exit → Act → World → Prop} (d s : Operand) (dT sT : TypeId) (hgd : o.guard = none)
    (ho : o.op = .call { callee := .builtin .copy, args := #[d, s], argTypes := #[dT, sT] }) (elem : TypeId) (hu : P.underlying dT = some (.slice elem)) (hsz : (P.info? elem).map (·.size) = some 1)
    (g m : Nat) (c : Option Addr) (r cap : Nat) (hd : a.eval d = .slice (some ⟨g, 0, none⟩) m m) (hs : a.eval s = .slice c r cap)
    (t : TypeId) (f0 : Nat → Value) (hr : w.rowIs g t m f0) (y : Nat → Int) (hv : RowV w c r (bb y)) (hl : r ≤ m)
    (h : ∀ w', w'.rowIs g t m (fun i => if i < r then bb y i else f0 i) → Chg (fun b => b = g) w w' → wpList P ops Q rest (a.put o.dst (goInt r)) w') : wpList P ops Q (o :: rest) a w := by
  by_cases h0 : r = 0
  · subst h0
    exact wpList_copy_nothing hgd d s dT sT ho elem hu hsz _ _ m m 0 cap hd hs (by simp) (h w (hr.congr (fun i _ => by simp)) (Chg.refl _ _))
  · obtain ⟨xb, xo, rfl, hxb, hc⟩ := hv.all (by omega)
    refine wpList_copy_own hgd d s dT sT ho elem hu hsz g 0 m m ⟨xb, xo, none⟩ r cap hd hs (rowA m f0) t (rowA_of hr) ((List.range r).map (bb y)) (by simp [Nat.min_eq_left hl]) ?_ (by rw [rowA_size]; simp; exact hl) (by intro v hv; simp at hv; obtain ⟨i, _, rfl⟩ := hv; rfl) ?_
    · intro j v hj
      by_cases hjr : j < r
      · rw [List.getElem?_map, List.getElem?_range hjr] at hj
        simp at hj
        subst hj
        rw [Go.WideShapes.add_plain]
        exact hc j hjr
      · rw [List.getElem?_eq_none (by simp; omega)] at hj
        cases hj
    · have e : (a.put o.dst (goInt ((List.range r).map (bb y)).length)) = a.put o.dst (goInt r) := by simp
      rw [e]
      refine h _ ?_ ?_
      · refine ⟨_, setRow_row (rowA_of hr) _, by simp [rowA_size]; omega, fun i hi => ?_⟩
        simp only [List.take_zero, List.nil_append, List.getElem?_toArray]
        by_cases hir : i < r
        · rw [List.getElem?_append_left (by simpa using hir), List.getElem?_map, List.getElem?_range hir]
          simp [hir]
        · rw [List.getElem?_append_right (by simpa using Nat.le_of_not_lt hir)]
          simp [rowA, hir]
          rw [show r + (i - r) = i by omega]
          exact ⟨i, List.getElem?_range hi, rfl⟩
      · refine ⟨rfl, rfl, rfl, by simp [World.setRow], fun k hk hp => ?_⟩
        simp only [World.setRow, Array.getElem?_modify]
        rw [if_neg (fun e => hp e.symm)]
end
/-- The last block's bytes. -/
def lbz (y : Nat → Int) (r i : Nat) : Int := (if i < r then y i else if i = r then 1 else 0) + (if i = 135 then 128 else 0)
theorem lbz_blk (z : Nat → Int) (n i : Nat) (hi : i < 136) : lbz (fun i => z (136 * (n / 136) + i)) (n - 136 * (n / 136)) i = blk (pd z n) (n / 136) i := by
  unfold lbz blk pd pz pn
  dsimp only
  repeat' split
  all_goals omega

/-- Nothing in a row of bytes. -/
def b0 (_ : Nat) : Value := .int .u8 0
theorem infoBl : (Tryz.prog.info? 179).map (fun i => (i.zero, i.size)) = some (some (.agg (rowA 136 b0)), 136) := by kernel_rfl
theorem infoB1 : (Tryz.prog.info? 5).map (·.size) = some 1 := by kernel_rfl

theorem lbz_set1 (y : Nat → Int) (r i : Nat) (hi : i < 136) (h : r = 135) : (if i = 135 then Value.int .u8 129 else if i = r then .int .u8 1 else if i < r then bb y i else b0 i) = bb (lbz y r) i := by
  unfold bb b0 lbz
  repeat' split
  all_goals first | omega | rfl | (congr 1; omega)
theorem lbz_set0 (y : Nat → Int) (r i : Nat) (hi : i < 136) (h : r < 135) : (if i = 135 then Value.int .u8 128 else if i = r then .int .u8 1 else if i < r then bb y i else b0 i) = bb (lbz y r) i := by
  unfold bb b0 lbz
  repeat' split
  all_goals first | omega | rfl | (congr 1; omega)

set_option maxRecDepth 100000 in
set_option maxHeartbeats 1000000 in
theorem lastBlock_any (c : Option Addr) (r cap : Nat) (y : Nat → Int) (w : World) (hv : Hid (RowV w c r (bb y))) (hr : r < 136) :
    Calls Tryz.prog 131 #[.slice c r cap] w fun e w' => e = .returned (.string (bt (lbz y r) 136)) ∧ Chg nob w w' := by
  have hz := (zero_of_info infoBl).1
  have HB1 := hik infoB1
  have hr' : (r : Int) < 136 := by omega
  have x1 : bits .xor .u8 0 1 = 1 := by decide
  have x2 : bits .xor .u8 0 128 = 128 := by decide
  have x3 : bits .xor .u8 1 128 = 129 := by decide
  by_cases h5 : r = 135
  · have H5 := hik h5
    clear h5
    go_enter Tryz.func131, Tryz.ntmps131
    go_wp2_with ((with_reducible refine wpList_copy_into (.tmp 4) (.tmp 5) 53 53 rfl rfl 5 Tryz.underlying53 HB1.out w.heap.size 136 c r cap ?hd ?hs 179 b0 (rowIs_new w 136 b0 _) y ?hv (by omega) ?_); (case hd => rfl); (case hs => rfl); (case hv => exact hv.out.keep ((Chg.refl _ _).alloc _)); intro W1 hr1 hg1; have R1 := hik hr1; have G1 := hik (Chg.near ((Chg.refl nob w).alloc _) hg1 (fun i e => by omega)); clear hr1 hg1; have f1 := R1.out.frozen r; have c1 : W1.cell? ⟨w.heap.size, r, none⟩ = some (.int .u8 0) := ((R1.out.cell (i := r) (by omega)).trans (by simp [b0])); have R2 := hik (R1.out.set r (.int .u8 1)); have f2 := R2.out.frozen 135; have c2 : (W1.setCell ⟨w.heap.size, r, none⟩ (.int .u8 1)).cell? ⟨w.heap.size, 135, none⟩ = some (.int .u8 1) := ((R2.out.cell (i := 135) (by omega)).trans (congrArg some (if_pos H5.out.symm))); have R3 := hik ((R2.out.set 135 (.int .u8 129)).congr (g := bb (lbz y r)) (fun i hi => lbz_set1 y r i (by omega) H5.out)); have hcv := convB (some ⟨w.heap.size, 0, none⟩) 136 136 (lbz y r) _ (RowV.of_row R3.out (Nat.le_refl _)))
    go_ret
    exact ⟨rfl, (G1.out.setCell (p := ⟨w.heap.size, r, none⟩) (fun l => absurd l (by simp)) _).setCell (p := ⟨w.heap.size, 135, none⟩) (fun l => absurd l (by simp)) _⟩
  · go_enter Tryz.func131, Tryz.ntmps131
    go_wp2_with ((with_reducible refine wpList_copy_into (.tmp 4) (.tmp 5) 53 53 rfl rfl 5 Tryz.underlying53 HB1.out w.heap.size 136 c r cap ?hd ?hs 179 b0 (rowIs_new w 136 b0 _) y ?hv (by omega) ?_); (case hd => rfl); (case hs => rfl); (case hv => exact hv.out.keep ((Chg.refl _ _).alloc _)); intro W1 hr1 hg1; have R1 := hik hr1; have G1 := hik (Chg.near ((Chg.refl nob w).alloc _) hg1 (fun i e => by omega)); clear hr1 hg1; have f1 := R1.out.frozen r; have c1 : W1.cell? ⟨w.heap.size, r, none⟩ = some (.int .u8 0) := ((R1.out.cell (i := r) (by omega)).trans (by simp [b0])); have R2 := hik (R1.out.set r (.int .u8 1)); have f2 := R2.out.frozen 135; have c2 : (W1.setCell ⟨w.heap.size, r, none⟩ (.int .u8 1)).cell? ⟨w.heap.size, 135, none⟩ = some (.int .u8 0) := ((R2.out.cell (i := 135) (by omega)).trans (congrArg some ((if_neg (by omega)).trans (if_neg (by omega))))); have R3 := hik ((R2.out.set 135 (.int .u8 128)).congr (g := bb (lbz y r)) (fun i hi => lbz_set0 y r i (by omega) (by omega))); have hcv := convB (some ⟨w.heap.size, 0, none⟩) 136 136 (lbz y r) _ (RowV.of_row R3.out (Nat.le_refl _)))
    go_ret
    exact ⟨rfl, (G1.out.setCell (p := ⟨w.heap.size, r, none⟩) (fun l => absurd l (by simp)) _).setCell (p := ⟨w.heap.size, 135, none⟩) (fun l => absurd l (by simp)) _⟩

end Go.Proofs.YtkpohajmcngjcaaGreatDoor
