/- Several texts in one: Bytes of elements: what is written, how, by the program and by its model: contracts. Conditions: rows that can be read, right elements. · What the model makes of eight bytes: a contract. Condition: a text of at least eight bytes. · What the laws' helpers on slices of bytes, and on own rows of elements, do: contracts. Conditions: rows that can be read, lengths of at most 2 to the 40. · Elements read from bytes: what the program's reading does: contracts. Conditions: rows that can be read. · What the program makes of eight bytes: a contract. Condition: at least eight bytes that can be read. · What ExtBytes answers: a contract. Condition: a row that can be read. -/
import Derived.Test.YtgiefpipflcbgadGreatDoorBzab
import Derived.OwnWalk
import Derived.Test.YtgiefpipflcbgadGreatDoorBzac
import Derived.Deep.QuietTactic
import Derived.BigQuiet
import Derived.Deep.RegionWith
import Derived.Test.YtgiefpipflcbgadGreatDoorBzad
namespace Go.Proofs.YtgiefpipflcbgadGreatDoor
open Go.ChangeShapes Go.WideShapes Go.ChangeAt Go.RowKit
set_option linter.unusedVariables false
set_option linter.unusedSimpArgs false

theorem infoU8 : (Tryz.prog.info? 5).map (fun i => (i.zero, i.size, i.bytes)) = some (some (.int .u8 0), 1, 1) := by kernel_rfl
/-- The four bytes of a number, the higher ones first. -/
def wb (a : Int) : Nat → Int
  | 0 => a / 16777216 % 256
  | 1 => a / 65536 % 256
  | 2 => a / 256 % 256
  | _ => a % 256
/-- The bytes of elements. -/
def byt (f g : Nat → Int) (i : Nat) : Int := if i % 8 < 4 then wb (f (i / 8)) (i % 8) else wb (g (i / 8)) (i % 8 - 4)
def bvl (f g : Nat → Int) (i : Nat) : Value := .int .u8 (byt f g i)
theorem bvl_a (f g : Nat → Int) (k j : Nat) (h : j < 4) : bvl f g (k * 8 + j) = .int .u8 (wb (f k) j) := by
  unfold bvl byt
  rw [if_pos (by omega), show (k * 8 + j) / 8 = k by omega, show (k * 8 + j) % 8 = j by omega]
theorem bvl_b (f g : Nat → Int) (k j : Nat) (h : j < 4) : bvl f g (k * 8 + 4 + j) = .int .u8 (wb (g k) j) := by
  unfold bvl byt
  rw [if_neg (by omega), show (k * 8 + 4 + j) / 8 = k by omega, show (k * 8 + 4 + j) % 8 - 4 = j by omega]
/-- The values of a number's bytes. -/
def wv (a : Int) : List Value := [.int .u8 (wb a 0), .int .u8 (wb a 1), .int .u8 (wb a 2), .int .u8 (wb a 3)]
theorem range_four (h : Nat → Value) (m : Nat) : (List.range m).map h ++ [h m, h (m + 1), h (m + 2), h (m + 3)] = (List.range (m + 4)).map h := by
  rw [show m + 4 = m + 1 + 1 + 1 + 1 by omega, List.range_succ, List.range_succ, List.range_succ, List.range_succ]
  simp
theorem bytes_a (f g : Nat → Int) (k : Nat) : (List.range (k * 8)).map (bvl f g) ++ wv (f k) = (List.range (k * 8 + 4)).map (bvl f g) := by
  rw [← range_four]
  have h0 := bvl_a f g k 0 (by omega)
  rw [Nat.add_zero] at h0
  rw [h0, bvl_a f g k 1 (by omega), bvl_a f g k 2 (by omega), bvl_a f g k 3 (by omega)]
  rfl
theorem bytes_b (f g : Nat → Int) (k : Nat) : (List.range (k * 8 + 4)).map (bvl f g) ++ wv (g k) = (List.range ((k + 1) * 8)).map (bvl f g) := by
  rw [show (k + 1) * 8 = k * 8 + 4 + 4 by omega, ← range_four (bvl f g) (k * 8 + 4)]
  have h0 := bvl_b f g k 0 (by omega)
  rw [Nat.add_zero] at h0
  rw [h0, bvl_b f g k 1 (by omega), bvl_b f g k 2 (by omega), bvl_b f g k 3 (by omega)]
  rfl

set_option maxHeartbeats 1000000 in
theorem appendWord_any (B g k cap : Nat) (xs : List Value) (a : Int) (w : World) (hown : Hid (w.ownsRow B 5 1 (.slice (some ⟨g, 0, none⟩) k cap) k xs)) (hB : B ≤ w.heap.size) (hk : k + 4 ≤ cap) (a0 : 0 ≤ a) (a1 : a < 2130706433) :
    Calls Tryz.prog 119 #[.slice (some ⟨g, 0, none⟩) k cap, .int .i64 a] w fun e w' => e = .returned (.slice (some ⟨g, 0, none⟩) (k + 4) cap) ∧ w'.ownsRow B 5 1 (.slice (some ⟨g, 0, none⟩) (k + 4) cap) (k + 4) (xs ++ wv a) ∧ Chg (fun b => b = g) w w' := by
  obtain ⟨i0, hi, hz0, hz1, hz2⟩ := info_parts infoU8
  have HI := hide hi
  have HZ1 := hide hz1
  clear hi hz0 hz1 hz2
  go_enter Tryz.func119, Tryz.ntmps119
  go_wp2_with (at_builtin; refine wpList_append_fits _ rfl (.tmp 5) (.tmp 17) 22 rfl B 5 i0 1 Tryz.underlying22 HI.out HZ1.out g k cap xs rfl (hown.out.alloc _) ⟨_, 0, none⟩ 4 4 (wv a) rfl rfl ?c1 ?c2 hk ?c3)
  case c1 =>
    intro j u hj
    match j, hj with
    | 0, hj => simp [wv, wb] at hj; subst hj; simp [Addr.add]; omega
    | 1, hj => simp [wv, wb] at hj; subst hj; simp [Addr.add]
    | 2, hj => simp [wv, wb] at hj; subst hj; simp [Addr.add]
    | 3, hj => simp [wv, wb] at hj; subst hj; simp [Addr.add]
    | j + 4, hj => simp [wv] at hj
  case c2 => intro u hu; simp [wv] at hu; rcases hu with rfl | rfl | rfl | rfl <;> rfl
  case c3 =>
    intro w1 ho hgr
    have HO := hide ho
    have HG := hide (((Chg.refl (fun b => b = g) w).alloc _).grown hgr (fun b e _ => by simpa using e.symm))
    clear ho hgr
    go_wp2
    go_ret
    exact ⟨rfl, HO.out, HG.out⟩

theorem Chg.lookP {P : Nat → Prop} {w w' : World} (h : Chg P w w') {b o : Nat} (hn : ¬ P b) {v : Value} (c : w.cell? ⟨b, o, none⟩ = some v) : w'.cell? ⟨b, o, none⟩ = some v :=
  (h.cell (p := ⟨b, o, none⟩) (World.block_lt_of_cell? w _ c) hn).trans c
/-- The code of a list. -/
def bc (f g : Nat → Int) (n : Nat) : Int := if 4096 < n then 2 else if okP f g n then 0 else 1
/-- No bytes, and a code. -/
def NoBytes (w : World) (code : Int) (e : Ending) (w' : World) : Prop := e = .returned (.tuple #[.slice none 0 0, .int .i64 code]) ∧ Chg nob w w'
/-- A new row of the bytes. -/
def NewBytes (w : World) (n : Nat) (f g : Nat → Int) (e : Ending) (w' : World) : Prop :=
  ∃ b : Nat, w.heap.size ≤ b ∧ e = .returned (.tuple #[.slice (some ⟨b, 0, none⟩) (n * 8) (n * 8), .int .i64 0]) ∧ w'.rowIs b 5 (n * 8) (bvl f g) ∧ Chg nob w w'
/-- Either, by the code. -/
def EAns (w : World) (n : Nat) (f g : Nat → Int) (e : Ending) (w' : World) : Prop := (bc f g n ≠ 0 ∧ NoBytes w (bc f g n) e w') ∨ (bc f g n = 0 ∧ NewBytes w n f g e w')
theorem EAns.no {w w' : World} {n : Nat} {f g : Nat → Int} {e : Ending} {code : Int} (hb : bc f g n = code) (hc : code ≠ 0) (h : e = .returned (.tuple #[.slice none 0 0, .int .i64 code])) (k : Chg nob w w') : EAns w n f g e w' :=
  .inl ⟨by rw [hb]; exact hc, by rw [hb]; exact ⟨h, k⟩⟩
/-- An owned row, all of it in use, is a row. -/
theorem rowIs_of_owns {w : World} {B b n : Nat} {t : TypeId} {h : Nat → Value} (ho : w.ownsRow B t 1 (.slice (some ⟨b, 0, none⟩) n n) n ((List.range n).map h)) : w.rowIs b t n h := by
  rcases ho.2 with ⟨hv, _⟩ | ⟨g', cap, cur, hv, _, hcur, _, _, hsz, htk⟩
  · cases hv
  · simp at hv
    obtain ⟨rfl, rfl⟩ := hv
    refine ⟨cur, hcur, by omega, fun i hi => ?_⟩
    have e : cur.toList = (List.range n).map h := by
      rw [← htk]
      exact (List.take_of_length_le (by simp; omega)).symm
    rw [← Array.getElem?_toList, e, List.getElem?_map, List.getElem?_range hi]
    rfl

end Go.Proofs.YtgiefpipflcbgadGreatDoor

namespace Go.Proofs.YtgiefpipflcbgadGreatDoor
open Go.ChangeShapes Go.WideShapes Go.ChangeAt Go.RowKit
set_option linter.unusedVariables false
set_option maxRecDepth 100000
set_option linter.unusedSimpArgs false

/-- The number of the first k bytes, modulo the prime. -/
def fl8 (s : ByteArray) : Nat → Int
  | 0 => 0
  | k + 1 => (fl8 s k * 256 + zs s k) % 2130706433
theorem fl8_in (s : ByteArray) (k : Nat) : 0 ≤ fl8 s k ∧ fl8 s k < 2130706433 := by
  cases k with
  | zero => exact ⟨Int.le_refl _, show (0 : Int) < 2130706433 by omega⟩
  | succ k => unfold fl8; omega

set_option maxHeartbeats 1000000 in
theorem sField_any (s : ByteArray) (w : World) (h : 8 ≤ s.size) (hm : (s.size : Int) ≤ 9223372036854775807) :
    Calls Tryz.prog 92 #[.string s] w fun e w' => e = .returned (.int .i64 (fl8 s 8)) ∧ w = w' := by
  go_enter Tryz.func92, Tryz.ntmps92
  go_wp2
  go_loop [3, 4] (fun v i => ∃ (k : Nat) (z : Int), k ≤ 8 ∧ i = .int .i64 k ∧ v = .int .i64 z ∧ Hid (z = fl8 s k)) (fun _ i => 8 - (intOf i).toNat)
  case atStart => exact ⟨0, 0, by omega, rfl, rfl, hik rfl⟩
  case round =>
    obtain ⟨k, z, hk, rfl, rfl, HZ⟩ := hrel
    by_cases hlt : k < 8
    · have hlt' : (k : Int) < 8 := by omega
      have hks : k < s.size := by omega
      have hks' : (k : Int) < (s.size : Int) := by omega
      have z1 := zs_at s k hks
      have zl := zs_lo s k
      have zh := zs_hi s k
      have f0 := fl8_in s k
      rw [← HZ.out] at f0
      have f1 := f0.1
      have f2 := f0.2
      have v1 : (z * 256 + zs s k).tmod 2130706433 = (z * 256 + zs s k) % 2130706433 := Int.tmod_eq_emod_of_nonneg (by omega)
      have HN := hik (show (z * 256 + zs s k) % 2130706433 = fl8 s (k + 1) by rw [HZ.out]; rfl)
      clear f0
      go_wp2
      go_round
      case rel => exact ⟨k + 1, _, by omega, by go_num, rfl, HN⟩
      case measure => simp [intOf]; omega
    · obtain rfl : k = 8 := by omega
      go_wp2
      go_ret
      exact ⟨by rw [HZ.out]; rfl, rfl⟩

end Go.Proofs.YtgiefpipflcbgadGreatDoor

namespace Go.Proofs.YtgiefpipflcbgadGreatDoor
open Go.ChangeShapes Go.WideShapes Go.ChangeAt Go.RowKit
set_option linter.unusedVariables false
set_option maxRecDepth 100000
set_option linter.unusedSimpArgs false

theorem extBytes_no (c : Option Addr) (n cap : Nat) (f g : Nat → Int) (w : World) (h : Calls Tryz.prog 97 #[.slice c n cap] w fun e w' => EAns w n f g e w') (hb : bc f g n ≠ 0) :
    Calls Tryz.prog 97 #[.slice c n cap] w fun e w' => NoBytes w (bc f g n) e w' := by
  refine h.mono ?_
  rintro e w' (⟨_, h⟩ | ⟨h0, _⟩)
  · exact h
  · exact absurd h0 hb
theorem extBytes_yes (c : Option Addr) (n cap : Nat) (f g : Nat → Int) (w : World) (h : Calls Tryz.prog 97 #[.slice c n cap] w fun e w' => EAns w n f g e w') (hb : bc f g n = 0) :
    Calls Tryz.prog 97 #[.slice c n cap] w fun e w' => NewBytes w n f g e w' := by
  refine h.mono ?_
  rintro e w' (⟨h0, _⟩ | ⟨_, h⟩)
  · exact absurd hb h0
  · exact h

end Go.Proofs.YtgiefpipflcbgadGreatDoor

namespace Go.Proofs.YtgiefpipflcbgadGreatDoor
open Go.ChangeShapes Go.WideShapes Go.ChangeAt Go.RowKit
set_option linter.unusedVariables false
set_option linter.unusedSimpArgs false

/-- The number that four bytes from i on are. -/
def w4 (z : Nat → Int) (i : Nat) : Int := z i * 16777216 + z (i + 1) * 65536 + z (i + 2) * 256 + z (i + 3)

theorem or_nat64 (a b : Nat) (ha : a < 2 ^ 62) (hb : b < 2 ^ 62) : bits .or .i64 (a : Int) (b : Int) = ((a ||| b : Nat) : Int) := by
  have h : a ||| b < 2 ^ 62 := Nat.or_lt_two_pow ha hb
  unfold bits
  simp only [BitVec.ofInt_natCast]
  rw [BitVec.toNat_or, BitVec.toNat_ofNat, BitVec.toNat_ofNat]
  rw [Nat.mod_eq_of_lt (show a < 2 ^ IntKind.i64.bits from Nat.lt_of_lt_of_le ha (by decide)), Nat.mod_eq_of_lt (show b < 2 ^ IntKind.i64.bits from Nat.lt_of_lt_of_le hb (by decide)), IntKind.wrap_i64]
  omega
theorem or_low (a b i m : Nat) (hm : m = 2 ^ i) (h : a < m) : (b * m) ||| a = b * m + a := by
  subst hm
  rw [← Nat.shiftLeft_eq, Nat.shiftLeft_add_eq_or_of_lt h]
theorem w4_bits (a b c d : Int) (a0 : 0 ≤ a) (a1 : a < 256) (b0 : 0 ≤ b) (b1 : b < 256) (c0 : 0 ≤ c) (c1 : c < 256) (d0 : 0 ≤ d) (d1 : d < 256) :
    bits BinOp.or IntKind.i64 (bits BinOp.or IntKind.i64 (bits BinOp.or IntKind.i64 (a * 16777216) (b * 65536)) (c * 256)) d = a * 16777216 + b * 65536 + c * 256 + d := by
  obtain ⟨n0, rfl⟩ := Int.eq_ofNat_of_zero_le a0
  obtain ⟨n1, rfl⟩ := Int.eq_ofNat_of_zero_le b0
  obtain ⟨n2, rfl⟩ := Int.eq_ofNat_of_zero_le c0
  obtain ⟨n3, rfl⟩ := Int.eq_ofNat_of_zero_le d0
  have e0 : ((n0 : Int) * 16777216) = ((n0 * 16777216 : Nat) : Int) := by omega
  have e1 : ((n1 : Int) * 65536) = ((n1 * 65536 : Nat) : Int) := by omega
  have e2 : ((n2 : Int) * 256) = ((n2 * 256 : Nat) : Int) := by omega
  rw [e0, e1, e2, or_nat64 _ _ (by omega) (by omega), or_low (n1 * 65536) n0 24 16777216 (by decide) (by omega)]
  rw [or_nat64 _ _ (by omega) (by omega), show n0 * 16777216 + n1 * 65536 = (n0 * 256 + n1) * 65536 by omega, or_low (n2 * 256) _ 16 65536 (by decide) (by omega)]
  rw [or_nat64 _ _ (by omega) (by omega), show (n0 * 256 + n1) * 65536 + n2 * 256 = ((n0 * 256 + n1) * 256 + n2) * 256 by omega, or_low n3 _ 8 256 (by decide) (by omega)]
  omega

set_option maxHeartbeats 1000000 in
theorem wordAt_any (xb xo n cap i : Nat) (z : Nat → Int) (w : World) (h0 : w.cell? ⟨xb, xo, none⟩ = some (.int .u8 (z i))) (h1 : w.cell? ⟨xb, xo + 1, none⟩ = some (.int .u8 (z (i + 1)))) (h2 : w.cell? ⟨xb, xo + 2, none⟩ = some (.int .u8 (z (i + 2)))) (h3 : w.cell? ⟨xb, xo + 3, none⟩ = some (.int .u8 (z (i + 3))))
    (a0 : 0 ≤ z i) (a1 : z i < 256) (b0 : 0 ≤ z (i + 1)) (b1 : z (i + 1) < 256) (c0 : 0 ≤ z (i + 2)) (c1 : z (i + 2) < 256) (d0 : 0 ≤ z (i + 3)) (d1 : z (i + 3) < 256) (hn : (4 : Int) ≤ (n : Int)) (hm : (n : Int) ≤ 1099511627776) :
    Calls Tryz.prog 162 #[.slice (some ⟨xb, xo, none⟩) n cap] w fun e w' => e = .returned (.int .i64 (w4 z i)) ∧ Chg nob w w' := by
  have e0 : (0 : Int) < (n : Int) := by omega
  have e1 : (1 : Int) < (n : Int) := by omega
  have e2 : (2 : Int) < (n : Int) := by omega
  have e3 : (3 : Int) < (n : Int) := by omega
  go_enter Tryz.func162, Tryz.ntmps162
  go_wp2
  go_quiet (fail)
  go_wp2
  go_ret
  exact ⟨ret_int (w4_bits _ _ _ _ a0 a1 b0 b1 c0 c1 d0 d1), (Chg.refl _ _).drewN _⟩

end Go.Proofs.YtgiefpipflcbgadGreatDoor

namespace Go.Proofs.YtgiefpipflcbgadGreatDoor
open Go.ChangeShapes Go.WideShapes Go.ChangeAt Go.RowKit
set_option linter.unusedVariables false
set_option maxRecDepth 100000
set_option linter.unusedSimpArgs false

/-- Eight bytes as a number. -/
def w8 (z : Nat → Int) (i : Nat) : Int := w4 z i * 4294967296 + w4 z (i + 4)
theorem w4_in {z : Nat → Int} (h : isB z) (i : Nat) : 0 ≤ w4 z i ∧ w4 z i < 4294967296 := by
  have h0 := h i
  have h1 := h (i + 1)
  have h2 := h (i + 2)
  have h3 := h (i + 3)
  unfold w4
  omega
theorem or_u64 (a b : Nat) (ha : a < 2 ^ 64) (hb : b < 2 ^ 64) : bits .or .u64 (a : Int) (b : Int) = ((a ||| b : Nat) : Int) := by
  have h : a ||| b < 2 ^ 64 := Nat.or_lt_two_pow ha hb
  unfold bits
  simp only [BitVec.ofInt_natCast]
  rw [BitVec.toNat_or, BitVec.toNat_ofNat, BitVec.toNat_ofNat]
  rw [Nat.mod_eq_of_lt (show a < 2 ^ IntKind.u64.bits from ha), Nat.mod_eq_of_lt (show b < 2 ^ IntKind.u64.bits from hb), IntKind.wrap_u64]
  omega
theorem w8_bits (x y : Int) (x0 : 0 ≤ x) (x1 : x < 4294967296) (y0 : 0 ≤ y) (y1 : y < 4294967296) : bits .or .u64 (x * 4294967296) y = x * 4294967296 + y := by
  obtain ⟨a, rfl⟩ := Int.eq_ofNat_of_zero_le x0
  obtain ⟨b, rfl⟩ := Int.eq_ofNat_of_zero_le y0
  rw [show ((a : Int) * 4294967296) = ((a * 4294967296 : Nat) : Int) by omega, or_u64 _ _ (by omega) (by omega), or_low b a 32 4294967296 (by decide) (by omega)]
  omega

set_option maxHeartbeats 2000000 in
theorem longWord_any (xb xo n cap i : Nat) (z : Nat → Int) (w : World) (h : Hid (∀ j, j < 8 → w.cell? ⟨xb, xo + j, none⟩ = some (.int .u8 (z (i + j))))) (hz : Hid (isB z)) (hn : (8 : Int) ≤ (n : Int)) (hc : (n : Int) ≤ (cap : Int)) (hm : (n : Int) ≤ 1099511627776) (hc' : (cap : Int) ≤ 9223372036854775807) :
    Calls Tryz.prog 160 #[.slice (some ⟨xb, xo, none⟩) n cap] w fun e w' => e = .returned (.int .i64 (w8 z i % 2130706433)) ∧ Chg nob w w' := by
  have hf : (4 : Int) ≤ (n : Int) := by omega
  have hf' : (4 : Int) ≤ (cap : Int) := by omega
  have hf2 : ¬ (cap : Int) - 4 = 0 := by omega
  have hf3 : ¬ cap - 4 = 0 := by omega
  have hf4 : ¬ cap = 4 := by omega
  have HN := hik (show 8 ≤ n by omega)
  obtain ⟨x, hx⟩ : ∃ x, x = w4 z i := ⟨_, rfl⟩
  obtain ⟨y, hy⟩ : ∃ y, y = w4 z (i + 4) := ⟨_, rfl⟩
  have x0 : 0 ≤ x := by rw [hx]; exact (w4_in hz.out i).1
  have x1 : x < 4294967296 := by rw [hx]; exact (w4_in hz.out i).2
  have y0 : 0 ≤ y := by rw [hy]; exact (w4_in hz.out (i + 4)).1
  have y1 : y < 4294967296 := by rw [hy]; exact (w4_in hz.out (i + 4)).2
  have E := hik (show w8 z i = x * 4294967296 + y by unfold w8; rw [hx, hy])
  have B := hik (w8_bits x y x0 x1 y0 y1)
  have HX := hik hx
  have HY := hik hy
  clear hx hy
  have wx : IntKind.u64.wrap x = x := by rw [IntKind.wrap_u64]; omega
  have wy : IntKind.u64.wrap y = y := by rw [IntKind.wrap_u64]; omega
  have ws : IntKind.u64.wrap (x * 4294967296) = x * 4294967296 := by rw [IntKind.wrap_u64]; omega
  go_enter Tryz.func160, Tryz.ntmps160
  go_upto_region 1 with fail
  go_cut [3] from 4 (fun v W => v = .int .u64 (x * 4294967296 + y) ∧ Hid (Chg nob w W))
  case first =>
    refine wp_region_held_drew (S := fun _ => True) (by kernel_rfl) True.intro (fun hHeld => ?_)
    refine wpAnyH_take (i := 0) (v := ?_) rfl (by kernel_rfl) (by kernel_rfl) (by kernel_rfl) (fun _ _ _ h => h) (Or.inl ⟨by rfl, ?_⟩) (by assumption) ?_
    rotate_left 1
    · (intro w' hSw; (try dsimp only at hSw); go_simp; try with_reducible rfl)
    try simp only [Act.put, List.setIfInBounds_toArray, List.set_cons_zero, List.set_cons_succ, List.getElem_toArray, List.getElem_cons_zero, List.getElem_cons_succ]
    refine wpAnyH_take (i := 4) (v := ?_) rfl (by kernel_rfl) (by kernel_rfl) (by kernel_rfl) (fun _ _ _ h => h) (Or.inl ⟨by rfl, ?_⟩) (by assumption) ?_
    rotate_left 1
    · (intro w' hSw; (try dsimp only at hSw); go_simp; try with_reducible rfl)
    try simp only [Act.put, List.setIfInBounds_toArray, List.set_cons_zero, List.set_cons_succ, List.getElem_toArray, List.getElem_cons_zero, List.getElem_cons_succ]
    refine wpAnyH_take (i := 5) (v := ?_) rfl (by kernel_rfl) (by kernel_rfl) (by kernel_rfl) (fun _ _ _ h => h) (Or.inl ⟨by rfl, ?_⟩) (by assumption) ?_
    rotate_left 1
    · (intro w' hSw; (try dsimp only at hSw); go_simp; try with_reducible rfl)
    try simp only [Act.put, List.setIfInBounds_toArray, List.set_cons_zero, List.set_cons_succ, List.getElem_toArray, List.getElem_cons_zero, List.getElem_cons_succ]
    refine wpAnyH_ready (rs := [1]) (by kernel_rfl) (by simp) ?_
    refine AllReadyH.cons rfl (fun K hK => ?_) AllReadyH.nil
    refine stepL_callN 162 #[.tmp 4] #[22] (by rfl) (by rfl) #[.slice (some ⟨xb, xo, none⟩) n cap] (by simp only [List.map_toArray, List.map_cons, List.map_nil]; rfl) (run_go Tryz.func162 (by kernel_rfl) (by kernel_rfl) _ _) (wordAt_any xb (xo) (n) (cap) (i) z _ ((Chg.refl nob w).drew1.see (h.out 0 (by omega))) ((Chg.refl nob w).drew1.see (h.out 1 (by omega))) ((Chg.refl nob w).drew1.see (h.out 2 (by omega))) ((Chg.refl nob w).drew1.see (h.out 3 (by omega))) (hz.out _).1 (hz.out _).2 (hz.out _).1 (hz.out _).2 (hz.out _).1 (hz.out _).2 (hz.out _).1 (hz.out _).2 (by have := HN.out; omega) (by omega)) ?_
    rintro e W1 ⟨he, kW1⟩
    have he : e = .returned (.int .i64 x) := by rw [HX.out]; exact he
    refine ⟨_, he, ?_⟩
    refine hK.out _ _ True.intro (fun hHeld => ?_)
    clear hK K
    try simp only [Act.put, List.setIfInBounds_toArray, List.set_cons_zero, List.set_cons_succ, List.getElem_toArray, List.getElem_cons_zero, List.getElem_cons_succ]
    clear he
    have K1 := hik ((Chg.refl nob w).drew1.trans kW1)
    clear kW1
    refine wpAnyH_take (i := 2) (v := ?_) rfl (by kernel_rfl) (by kernel_rfl) (by kernel_rfl) (fun _ _ _ h => h) (Or.inl ⟨by rfl, ?_⟩) (by assumption) ?_
    rotate_left 1
    · (intro w' hSw; (try dsimp only at hSw); go_simp; try with_reducible rfl)
    try simp only [Act.put, List.setIfInBounds_toArray, List.set_cons_zero, List.set_cons_succ, List.getElem_toArray, List.getElem_cons_zero, List.getElem_cons_succ]
    refine wpAnyH_take (i := 3) (v := ?_) rfl (by kernel_rfl) (by kernel_rfl) (by kernel_rfl) (fun _ _ _ h => h) (Or.inl ⟨by rfl, ?_⟩) (by assumption) ?_
    rotate_left 1
    · (intro w' hSw; (try dsimp only at hSw); go_simp; try with_reducible rfl)
    try simp only [Act.put, List.setIfInBounds_toArray, List.set_cons_zero, List.set_cons_succ, List.getElem_toArray, List.getElem_cons_zero, List.getElem_cons_succ]
    refine wpAnyH_ready (rs := [6]) (by kernel_rfl) (by simp) ?_
    refine AllReadyH.cons rfl (fun K hK => ?_) AllReadyH.nil
    refine stepL_callN 162 #[.tmp 9] #[22] (by rfl) (by rfl) #[.slice (some ⟨xb, xo + 4, none⟩) (n - 4) (cap - 4)] (by simp only [List.map_toArray, List.map_cons, List.map_nil]; rfl) (run_go Tryz.func162 (by kernel_rfl) (by kernel_rfl) _ _) (wordAt_any xb (xo + 4) (n - 4) (cap - 4) (i + 4) z _ (K1.out.see (h.out 4 (by omega))) (K1.out.see (h.out 5 (by omega))) (K1.out.see (h.out 6 (by omega))) (K1.out.see (h.out 7 (by omega))) (hz.out _).1 (hz.out _).2 (hz.out _).1 (hz.out _).2 (hz.out _).1 (hz.out _).2 (hz.out _).1 (hz.out _).2 (by have := HN.out; omega) (by omega)) ?_
    rintro e W2 ⟨he, kW2⟩
    have he : e = .returned (.int .i64 y) := by rw [HY.out]; exact he
    refine ⟨_, he, ?_⟩
    refine hK.out _ _ True.intro (fun hHeld => ?_)
    clear hK K
    try simp only [Act.put, List.setIfInBounds_toArray, List.set_cons_zero, List.set_cons_succ, List.getElem_toArray, List.getElem_cons_zero, List.getElem_cons_succ]
    clear he
    have K2 := hik (K1.out.trans kW2)
    clear kW2
    refine wpAnyH_take (i := 7) (v := ?_) rfl (by kernel_rfl) (by kernel_rfl) (by kernel_rfl) (fun _ _ _ h => h) (Or.inl ⟨by rfl, ?_⟩) (by assumption) ?_
    rotate_left 1
    · (intro w' hSw; (try dsimp only at hSw); go_simp; try with_reducible rfl)
    try simp only [Act.put, List.setIfInBounds_toArray, List.set_cons_zero, List.set_cons_succ, List.getElem_toArray, List.getElem_cons_zero, List.getElem_cons_succ]
    refine wpAnyH_take (i := 8) (v := ?_) rfl (by kernel_rfl) (by kernel_rfl) (by kernel_rfl) (fun _ _ _ h => h) (Or.inl ⟨by rfl, ?_⟩) (by assumption) ?_
    rotate_left 1
    · (intro w' hSw; (try dsimp only at hSw); go_simp; try with_reducible rfl)
    try simp only [Act.put, List.setIfInBounds_toArray, List.set_cons_zero, List.set_cons_succ, List.getElem_toArray, List.getElem_cons_zero, List.getElem_cons_succ]
    refine wpAnyH_take (i := 9) (v := ?_) rfl (by kernel_rfl) (by kernel_rfl) (by kernel_rfl) (fun _ _ _ h => h) (Or.inl ⟨by rfl, ?_⟩) (by assumption) ?_
    rotate_left 1
    · (intro w' hSw; (try dsimp only at hSw); go_simp; try with_reducible rfl)
    try simp only [Act.put, List.setIfInBounds_toArray, List.set_cons_zero, List.set_cons_succ, List.getElem_toArray, List.getElem_cons_zero, List.getElem_cons_succ]
    refine wpAnyH_done (by kernel_rfl) ?_ _
    go_wp2_with fail
    go_meet
    case rel => exact ⟨congrArg (Value.int .u64) B.out, K2⟩
  case rest =>
    obtain ⟨rfl, K2⟩ := hcut
    have v1 : (x * 4294967296 + y).tmod 2130706433 = (x * 4294967296 + y) % 2130706433 := Int.tmod_eq_emod_of_nonneg (by omega)
    have v2 : (x * 4294967296 + y) % 2130706433 ≤ 2130706432 := by omega
    have v3 : 0 ≤ (x * 4294967296 + y) % 2130706433 := by omega
    go_wp2
    go_ret
    exact ⟨by rw [E.out]; rfl, K2.out⟩

end Go.Proofs.YtgiefpipflcbgadGreatDoor

namespace Go.Proofs.YtgiefpipflcbgadGreatDoor
open Go.ChangeShapes Go.WideShapes Go.ChangeAt Go.RowKit
set_option linter.unusedVariables false
set_option linter.unusedSimpArgs false

set_option maxHeartbeats 1000000 in
theorem extBytes_any (c : Option Addr) (n cap : Nat) (f g : Nat → Int) (w : World) (h : Hid (PairV w c n f g)) (hn : n ≤ 1099511627776) :
    Calls Tryz.prog 97 #[.slice c n cap] w fun e w' => EAns w n f g e w' := by
  by_cases hl : 4096 < n
  · have hl' : 4096 < (n : Int) := by omega
    have HB := hide (show bc f g n = 2 by simp [bc, hl])
    go_enter Tryz.func97, Tryz.ntmps97
    go_wp2
    go_ret2
    exact EAns.no HB.out (by omega) rfl (Chg.refl _ _)
  have hl' : ¬ 4096 < (n : Int) := by omega
  cases ho : okP f g n
  · have HB := hide (show bc f g n = 1 by simp [bc, hl, ho])
    go_enter Tryz.func97, Tryz.ntmps97
    go_wp2_with fail
    refine (extsOK_any c n cap f g _ h hn).mono ?_
    rintro e w1 ⟨rfl, k1⟩
    go_wp2
    go_ret2
    exact EAns.no HB.out (by omega) rfl k1
  have HB := hide (show bc f g n = 0 by simp [bc, hl, ho])
  have HOK := hide ho
  obtain ⟨i0, hi, hz0, hz1, hz2⟩ := info_parts infoU8
  have HI := hide hi
  have HZ0 := hide hz0
  have HZ1 := hide hz1
  have hb : i0.bytes * (n * 8) ≤ 281474976710656 := by rw [hz2]; omega
  clear hi hz0 hz1 hz2
  go_enter Tryz.func97, Tryz.ntmps97
  go_wp2_with fail
  refine (extsOK_any c n cap f g _ h hn).mono ?_
  rintro e w1 ⟨rfl, k1⟩
  have K1 := hide k1
  clear k1
  go_wp2_with (at_make; refine wpList_make_own _ rfl (.const (.int .i64 0)) (.tmp 15) 22 rfl w1.heap.size 5 i0 (.int .u8 0) 1 Tryz.underlying22 HI.out HZ0.out HZ1.out .i64 .i64 _ (n * 8) rfl rfl (by omega) hb (by unfold maxLen; omega) (Nat.le_refl _) ?_)
  intro w2 hown hgr
  have HW0 := hide hown
  have K2 := hide (K1.out.grown hgr (fun b e _ => by cases e))
  clear hown hgr hb HI HZ0 HZ1
  go_wp2
  go_loopw [4, 19] (fun v i W => ∃ k : Nat, k ≤ n ∧ i = .int .i64 k ∧ v = .slice (some ⟨w1.heap.size, 0, none⟩) (k * 8) (n * 8) ∧ Hid (W.ownsRow w1.heap.size 5 1 (.slice (some ⟨w1.heap.size, 0, none⟩) (k * 8) (n * 8)) (k * 8) ((List.range (k * 8)).map (bvl f g))) ∧ Hid (Chg nob w W)) (fun _ i _ => n - (intOf i).toNat)
  case atStart => exact ⟨0, Nat.zero_le _, rfl, rfl, HW0, K2⟩
  case round =>
    obtain ⟨k, hk, rfl, rfl, HW, HC⟩ := hrel
    by_cases hlt : k < n
    · obtain ⟨xb, xo, rfl, hxb, hx0, hx1⟩ := (h.out.keep HC.out) k hlt
      have ee := okP_all f g n HOK.out k hlt
      have a0 := fok_lo (eok_a ee)
      have a1 := fok_hi (eok_a ee)
      have b0 := fok_lo (eok_b ee)
      have b1 := fok_hi (eok_b ee)
      clear ee
      have hb1 : w1.heap.size < wr.heap.size := (HW.out.lt w1.heap.size rfl).2
      have hne : ¬ wr.heap.size = w1.heap.size := by omega
      have hw1 := K1.out.size
      have s0 : (wr.alloc (.cells #[.int .i64 (f k), .int .i64 (g k)] 31)).drew.cell? ⟨wr.heap.size, 0, none⟩ = some (.int .i64 (f k)) := by go_simp
      have s1 : (wr.alloc (.cells #[.int .i64 (f k), .int .i64 (g k)] 31)).drew.cell? ⟨wr.heap.size, 1, none⟩ = some (.int .i64 (g k)) := by go_simp
      have HS0 := hide s0
      have HS1 := hide s1
      clear s0 s1
      go_wp2
      go_region_held3 (fun w' => w'.cell? ⟨wr.heap.size, 0, none⟩ = some (.int .i64 (f k)) ∧ w'.cell? ⟨wr.heap.size, 1, none⟩ = some (.int .i64 (g k))) (first | with_reducible exact ⟨HS0.out, HS1.out⟩ | with_reducible exact ⟨k2.lookP hne (k1.lookP hne HS0.out), k2.lookP hne (k1.lookP hne HS1.out)⟩ | with_reducible exact ⟨k1.lookP hne HS0.out, k1.lookP hne HS1.out⟩) (first | (go_at_call_of 119 (Value.int IntKind.i64 (f k)); refine (appendWord_any w1.heap.size w1.heap.size (k * 8) (n * 8) _ (f k) _ (hide ((HW.out.alloc _).drew)) (by simp; omega) (by omega) a0 a1).mono ?_; rintro e w3 ⟨rfl, o1, k1⟩; have HO1 : Hid (w3.ownsRow w1.heap.size 5 1 (.slice (some ⟨w1.heap.size, 0, none⟩) (k * 8 + 4) (n * 8)) (k * 8 + 4) ((List.range (k * 8 + 4)).map (bvl f g))) := hide (by rw [← bytes_a]; exact o1); have hs1 : wr.heap.size + 1 ≤ w3.heap.size := (by have := k1.size; simpa using this); clear o1) | (go_at_call_of 119 (Value.int IntKind.i64 (g k)); refine (appendWord_any w1.heap.size w1.heap.size (k * 8 + 4) (n * 8) _ (g k) _ HO1 (by omega) (by omega) b0 b1).mono ?_; rintro e w4 ⟨rfl, o2, k2⟩; have HO2 : Hid (w4.ownsRow w1.heap.size 5 1 (.slice (some ⟨w1.heap.size, 0, none⟩) (k * 8 + 4 + 4) (n * 8)) (k * 8 + 4 + 4) ((List.range ((k + 1) * 8)).map (bvl f g))) := hide (by rw [← bytes_b]; exact o2); clear o2))
      have HC2 : Hid (Chg nob w w4) := hide ((((HC.out.alloc _).drew.wide.trans k1).trans k2).mono (fun i hi e => by omega))
      clear k1 k2
      go_wp2
      go_roundw
      case rel => exact ⟨k + 1, by omega, by go_num, by rw [show (k + 1) * 8 = k * 8 + 4 + 4 by omega], hide (by have q := HO2.out; rw [show k * 8 + 4 + 4 = (k + 1) * 8 by omega] at q; exact q), HC2⟩
      case measure => simp [intOf]; omega
    · obtain rfl : k = n := by omega
      go_wp2
      go_ret2
      exact .inr ⟨HB.out, w1.heap.size, K1.out.size, rfl, rowIs_of_owns HW.out, HC.out⟩

end Go.Proofs.YtgiefpipflcbgadGreatDoor
