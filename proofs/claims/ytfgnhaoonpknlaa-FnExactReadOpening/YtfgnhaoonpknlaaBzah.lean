/- Several texts in one: What the laws' helpers on slices of bytes, and on own rows of elements, do: contracts. Conditions: rows that can be read, lengths of at most 2 to the 40. · Elements read from bytes: what the program's reading does: contracts. Conditions: rows that can be read. -/
import Derived.Test.YtfgnhaoonpknlaaBzag
import Derived.Deep.QuietTactic
import Derived.BigQuiet
import Derived.Deep.RegionWith
namespace Go.Proofs.Ytfgnhaoonpknlaa
open Go.ChangeShapes Go.WideShapes Go.ChangeAt Go.RowKit
set_option linter.unusedVariables false
set_option maxRecDepth 100000
set_option linter.unusedSimpArgs false

/-- Bytes as values. -/
def bw (f : Nat → Int) (i : Nat) : Value := .int .u8 (f i)

set_option maxHeartbeats 1000000 in
theorem toByteS_any (c : Option Addr) (n cap : Nat) (f : Nat → Int) (w : World) (h : Hid (RowV w c n (bw f))) (hn : n ≤ 1099511627776) :
    Calls Try.prog 5 #[.slice c n cap] w fun e w' => e = .returned (.slice (some ⟨w.heap.size, 0, none⟩) n n) ∧ w'.rowIs w.heap.size 5 n (bw f) ∧ Chg nob w w' := by
  obtain ⟨i0, hi, hz0, hz1, hz2⟩ := info_parts infoU8
  have HI := hik hi
  have HZ0 := hik hz0
  have HZ1 := hik hz1
  have HZ2 := hik hz2
  have hb : i0.bytes * n ≤ 281474976710656 := by rw [hz2]; omega
  clear hi hz0 hz1 hz2
  go_enter Try.func5, Try.ntmps5
  go_wp2_with (at_make; refine wpList_make_row _ rfl (.tmp 6) (.tmp 6) 22 rfl 5 i0 (.int .u8 0) Try.underlying22 HI.out HZ0.out HZ1.out rfl .i64 .i64 n rfl rfl hb (by omega) ?_)
  clear hb HI HZ0 HZ1 HZ2
  go_loopw [4] (fun i W => ∃ k : Nat, k ≤ n ∧ i = .int .i64 k ∧ Hid (W.rowIs w.heap.size 5 n (fun j => if j < k then bw f j else .int .u8 0)) ∧ Hid (Chg nob w W)) (fun i _ => n - (intOf i).toNat)
  case atStart => exact ⟨0, Nat.zero_le _, rfl, hik ((World.rowIs_made w (.int .u8 0) n 5).congr (fun i _ => by simp)), hik ((Chg.refl _ _).alloc _)⟩
  case round =>
    obtain ⟨k, hk, rfl, HR, HC⟩ := hrel
    by_cases hlt : k < n
    · obtain ⟨xb, xo, rfl, hxb, hcell⟩ := (h.out.keep HC.out) k hlt
      have hx : _ = some (Value.int .u8 (f k)) := hcell
      have hg := HR.out.cell hlt
      have hf := HR.out.frozen k
      simp only [Nat.lt_irrefl, if_false] at hg
      have HR2 := hik (show _ from (HR.out.set k (.int .u8 (f k))).congr (g := fun j => if j < k + 1 then bw f j else .int .u8 0) (fun i _ => by
        by_cases e : i = k
        · subst e; simp [bw]
        · by_cases e2 : i < k
          · simp [e, e2, show i < k + 1 by omega]
          · simp [e, e2, show ¬ i < k + 1 by omega]))
      have HC2 := hik (HC.out.setCell (p := ⟨w.heap.size, k, none⟩) (fun l => absurd l (by simp)) (.int .u8 (f k)))
      clear hcell
      go_wp2
      go_roundw
      case rel => exact ⟨k + 1, by omega, by go_num, HR2, HC2⟩
      case measure => simp [intOf]; omega
    · go_wp2
      go_ret
      exact ⟨rfl, HR.out.congr (fun i hi => by simp [show i < k by omega]), HC.out⟩

set_option maxHeartbeats 1000000 in
theorem eqByteS_any (c d : Option Addr) (n m cap cap' : Nat) (f g : Nat → Int) (w : World) (h : Hid (RowV w c n (bw f))) (h' : Hid (RowV w d m (bw g))) (hm : n = m) (he : ∀ i, i < n → f i = g i) (hn : n ≤ 1099511627776) :
    Calls Try.prog 9 #[.slice c n cap, .slice d m cap'] w fun e w' => e = .returned (.bool true) ∧ Chg nob w w' := by
  subst hm
  have HE := hik he
  clear he
  go_enter Try.func9, Try.ntmps9
  go_wp2
  go_loopw [5] (fun i W => ∃ k : Nat, k ≤ n ∧ i = .int .i64 k ∧ Hid (Chg nob w W)) (fun i _ => n - (intOf i).toNat)
  case atStart => exact ⟨0, Nat.zero_le _, rfl, hik (Chg.refl _ _)⟩
  case round =>
    obtain ⟨k, hk, rfl, HC⟩ := hrel
    by_cases hlt : k < n
    · obtain ⟨xb, xo, rfl, hxb, hcell⟩ := (h.out.keep HC.out) k hlt
      have hx : _ = some (Value.int .u8 (f k)) := hcell
      obtain ⟨yb, yo, rfl, hyb, hcell'⟩ := (h'.out.keep HC.out) k hlt
      have hy : _ = some (Value.int .u8 (g k)) := hcell'
      rw [← HE.out k hlt] at hy
      clear hcell hcell'
      go_wp2
      go_quiet (fail)
      go_wp2
      go_roundw
      case rel => exact ⟨k + 1, by omega, by go_num, hik (HC.out.drewN _)⟩
      case measure => simp [intOf]; omega
    · go_wp2
      go_ret
      exact ⟨rfl, HC.out⟩

/-- The numbers that markByteS writes. -/
def mkb (i : Nat) : Int := (1 + (i : Int)) % 256

set_option maxHeartbeats 1000000 in
theorem markByteS_none (c : Option Addr) (cap : Nat) (w : World) :
    Calls Try.prog 10 #[.slice c 0 cap, .int .i64 1] w fun e w' => e = .returned (.int .i64 1) ∧ Chg nob w w' := by
  go_enter Try.func10, Try.ntmps10
  go_wp2
  go_loopw [1, 5] (fun v i W => i = .int .i64 0 ∧ v = .int .i64 1 ∧ Hid (Chg nob w W)) (fun _ _ _ => 0)
  case atStart => exact ⟨rfl, rfl, hik (Chg.refl _ _)⟩
  case round =>
    obtain ⟨rfl, rfl, HC⟩ := hrel
    go_wp2
    go_ret
    exact ⟨rfl, HC.out⟩


end Go.Proofs.Ytfgnhaoonpknlaa

namespace Go.Proofs.Ytfgnhaoonpknlaa
open Go.ChangeShapes Go.WideShapes Go.ChangeAt Go.RowKit
set_option linter.unusedVariables false
set_option linter.unusedSimpArgs false

/-- The number that four bytes from i on are. -/
def w4 (z : Nat → Int) (i : Nat) : Int := z i * 16777216 + z (i + 1) * 65536 + z (i + 2) * 256 + z (i + 3)

theorem or_nat64 (a b : Nat) (ha : a < 2 ^ 62) (hb : b < 2 ^ 62) : bits .or .i64 (a : Int) (b : Int) = ((a ||| b : Nat) : Int) := by
  have h : a ||| b < 2 ^ 62 := Nat.or_lt_two_pow ha hb
  unfold bits
  simp only [BitVec.ofInt_natCast]
  rw [BitVec.toNat_or, BitVec.toNat_ofNat, BitVec.toNat_ofNat]
  rw [Nat.mod_eq_of_lt (show a < 2 ^ IntKind.i64.bits from Nat.lt_of_lt_of_le ha (by decide)), Nat.mod_eq_of_lt (show b < 2 ^ IntKind.i64.bits from Nat.lt_of_lt_of_le hb (by decide)), IntKind.wrap_i64]
  omega
theorem or_low (a b i m : Nat) (hm : m = 2 ^ i) (h : a < m) : (b * m) ||| a = b * m + a := by
  subst hm
  rw [← Nat.shiftLeft_eq, Nat.shiftLeft_add_eq_or_of_lt h]
theorem w4_bits (a b c d : Int) (a0 : 0 ≤ a) (a1 : a < 256) (b0 : 0 ≤ b) (b1 : b < 256) (c0 : 0 ≤ c) (c1 : c < 256) (d0 : 0 ≤ d) (d1 : d < 256) :
    bits BinOp.or IntKind.i64 (bits BinOp.or IntKind.i64 (bits BinOp.or IntKind.i64 (a * 16777216) (b * 65536)) (c * 256)) d = a * 16777216 + b * 65536 + c * 256 + d := by
  obtain ⟨n0, rfl⟩ := Int.eq_ofNat_of_zero_le a0
  obtain ⟨n1, rfl⟩ := Int.eq_ofNat_of_zero_le b0
  obtain ⟨n2, rfl⟩ := Int.eq_ofNat_of_zero_le c0
  obtain ⟨n3, rfl⟩ := Int.eq_ofNat_of_zero_le d0
  have e0 : ((n0 : Int) * 16777216) = ((n0 * 16777216 : Nat) : Int) := by omega
  have e1 : ((n1 : Int) * 65536) = ((n1 * 65536 : Nat) : Int) := by omega
  have e2 : ((n2 : Int) * 256) = ((n2 * 256 : Nat) : Int) := by omega
  rw [e0, e1, e2, or_nat64 _ _ (by omega) (by omega), or_low (n1 * 65536) n0 24 16777216 (by decide) (by omega)]
  rw [or_nat64 _ _ (by omega) (by omega), show n0 * 16777216 + n1 * 65536 = (n0 * 256 + n1) * 65536 by omega, or_low (n2 * 256) _ 16 65536 (by decide) (by omega)]
  rw [or_nat64 _ _ (by omega) (by omega), show (n0 * 256 + n1) * 65536 + n2 * 256 = ((n0 * 256 + n1) * 256 + n2) * 256 by omega, or_low n3 _ 8 256 (by decide) (by omega)]
  omega

set_option maxHeartbeats 1000000 in
theorem wordAt_any (xb xo n cap i : Nat) (z : Nat → Int) (w : World) (h0 : w.cell? ⟨xb, xo, none⟩ = some (.int .u8 (z i))) (h1 : w.cell? ⟨xb, xo + 1, none⟩ = some (.int .u8 (z (i + 1)))) (h2 : w.cell? ⟨xb, xo + 2, none⟩ = some (.int .u8 (z (i + 2)))) (h3 : w.cell? ⟨xb, xo + 3, none⟩ = some (.int .u8 (z (i + 3))))
    (a0 : 0 ≤ z i) (a1 : z i < 256) (b0 : 0 ≤ z (i + 1)) (b1 : z (i + 1) < 256) (c0 : 0 ≤ z (i + 2)) (c1 : z (i + 2) < 256) (d0 : 0 ≤ z (i + 3)) (d1 : z (i + 3) < 256) (hn : (4 : Int) ≤ (n : Int)) (hm : (n : Int) ≤ 1099511627776) :
    Calls Try.prog 42 #[.slice (some ⟨xb, xo, none⟩) n cap] w fun e w' => e = .returned (.int .i64 (w4 z i)) ∧ Chg nob w w' := by
  have e0 : (0 : Int) < (n : Int) := by omega
  have e1 : (1 : Int) < (n : Int) := by omega
  have e2 : (2 : Int) < (n : Int) := by omega
  have e3 : (3 : Int) < (n : Int) := by omega
  go_enter Try.func42, Try.ntmps42
  go_wp2
  go_quiet (fail)
  go_wp2
  go_ret
  exact ⟨ret_int (w4_bits _ _ _ _ a0 a1 b0 b1 c0 c1 d0 d1), (Chg.refl _ _).drewN _⟩

set_option maxHeartbeats 1000000 in
theorem extAt_any (xb xo n cap i : Nat) (z : Nat → Int) (w : World) (h : Hid (∀ j, j < 8 → w.cell? ⟨xb, xo + j, none⟩ = some (.int .u8 (z (i + j))))) (hz : Hid (∀ j, 0 ≤ z j ∧ z j < 256)) (hn : (8 : Int) ≤ (n : Int)) (hc : (n : Int) ≤ (cap : Int)) (hm : (n : Int) ≤ 1099511627776) (hc' : (cap : Int) ≤ 9223372036854775807) :
    Calls Try.prog 59 #[.slice (some ⟨xb, xo, none⟩) n cap] w fun e w' => e = .returned (.agg #[.int .i64 (w4 z i), .int .i64 (w4 z (i + 4))]) ∧ Chg nob w w' := by
  have hf : (4 : Int) ≤ (n : Int) := by omega
  have hf' : (4 : Int) ≤ (cap : Int) := by omega
  have HA : Hid (∀ j, j < 8 → (w.alloc (.cells #[.int .i64 0, .int .i64 0] 28)).drew.cell? ⟨xb, xo + j, none⟩ = some (.int .u8 (z (i + j)))) := hide (fun j hj => ((Chg.refl nob w).alloc (.cells #[.int .i64 0, .int .i64 0] 28)).drew.look (h.out j hj))
  have r0 : (w.alloc (.cells #[.int .i64 0, .int .i64 0] 28)).drew.rowIs w.heap.size 28 2 (pi2 0 0) := row2_new w _ _ _
  have HR := hide r0
  clear r0
  go_enter Try.func59, Try.ntmps59
  go_wp2
  go_region_held3 (fun _ => True) (exact True.intro) (first | (go_at_call_of 42 (Value.slice (some (Addr.mk xb xo none)) n cap); refine (wordAt_any xb xo n cap i z _ (HA.out 0 (by omega)) (HA.out 1 (by omega)) (HA.out 2 (by omega)) (HA.out 3 (by omega)) (hz.out _).1 (hz.out _).2 (hz.out _).1 (hz.out _).2 (hz.out _).1 (hz.out _).2 (hz.out _).1 (hz.out _).2 (by omega) hm).mono ?_; rintro e w1 ⟨rfl, k1⟩; have R1 := hide (rowIs_keep HR.out k1)) | (go_at_call 42; refine (wordAt_any xb (xo + 4) (n - 4) (cap - 4) (i + 4) z _ (k1.look (HA.out 4 (by omega))) (k1.look (HA.out 5 (by omega))) (k1.look (HA.out 6 (by omega))) (k1.look (HA.out 7 (by omega))) (hz.out _).1 (hz.out _).2 (hz.out _).1 (hz.out _).2 (hz.out _).1 (hz.out _).2 (hz.out _).1 (hz.out _).2 (by omega) (by omega)).mono ?_; rintro e w2 ⟨rfl, k2⟩; have R2 := hide (rowIs_keep R1.out k2); have q0 := row2_c0 R2.out; have q1 := row2_c1 R2.out; have q2 := R2.out.frozen 0; have q3 := R2.out.frozen 1))
  have HG := hide ((((Chg.refl nob w).alloc _).drew.trans k1).trans k2)
  clear k1 k2
  go_wp2
  exact bodyPost_ret (v := .agg #[.int .i64 (w4 z i), .int .i64 (w4 z (i + 4))]) (by simp [results, Try.results59, go_sem, *]) rfl ⟨rfl, chg2_set HG.out w.heap.size (fun l => absurd l (by omega)) _ _⟩


end Go.Proofs.Ytfgnhaoonpknlaa
