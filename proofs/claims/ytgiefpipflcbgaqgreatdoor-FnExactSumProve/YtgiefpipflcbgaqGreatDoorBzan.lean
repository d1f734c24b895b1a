/- Several texts in one: What the model makes of eight bytes: a contract. Condition: a text of at least eight bytes. · Elements read from bytes: what the program's reading does: contracts. Conditions: rows that can be read. · What the program makes of eight bytes: a contract. Condition: at least eight bytes that can be read. -/
import Derived.Test.YtgiefpipflcbgaqGreatDoorBzaj
import Derived.Test.YtgiefpipflcbgaqGreatDoorBzay
import Derived.Deep.RegionWith
import Derived.Test.YtgiefpipflcbgaqGreatDoorBzae
import Derived.Test.YtgiefpipflcbgaqGreatDoorBzab
import Derived.Deep.QuietTactic
import Derived.BigQuiet
namespace Go.Proofs.YtgiefpipflcbgaqGreatDoor
open Go.ChangeShapes Go.WideShapes Go.ChangeAt Go.RowKit
set_option linter.unusedVariables false
set_option maxRecDepth 100000
set_option linter.unusedSimpArgs false

/-- The number of the first k bytes, modulo the prime. -/
def fl8 (s : ByteArray) : Nat → Int
  | 0 => 0
  | k + 1 => (fl8 s k * 256 + zs s k) % 2130706433
theorem fl8_in (s : ByteArray) (k : Nat) : 0 ≤ fl8 s k ∧ fl8 s k < 2130706433 := by
  cases k with
  | zero => exact ⟨Int.le_refl _, show (0 : Int) < 2130706433 by omega⟩
  | succ k => unfold fl8; omega

set_option maxHeartbeats 1000000 in
theorem sField_any (s : ByteArray) (w : World) (h : 8 ≤ s.size) (hm : (s.size : Int) ≤ 9223372036854775807) :
    Calls Tryz.prog 81 #[.string s] w fun e w' => e = .returned (.int .i64 (fl8 s 8)) ∧ w = w' := by
  go_enter Tryz.func81, Tryz.ntmps81
  go_wp2
  go_loop [3, 4] (fun v i => ∃ (k : Nat) (z : Int), k ≤ 8 ∧ i = .int .i64 k ∧ v = .int .i64 z ∧ Hid (z = fl8 s k)) (fun _ i => 8 - (intOf i).toNat)
  case atStart => exact ⟨0, 0, by omega, rfl, rfl, hik rfl⟩
  case round =>
    obtain ⟨k, z, hk, rfl, rfl, HZ⟩ := hrel
    by_cases hlt : k < 8
    · have hlt' : (k : Int) < 8 := by omega
      have hks : k < s.size := by omega
      have hks' : (k : Int) < (s.size : Int) := by omega
      have z1 := zs_at s k hks
      have zl := zs_lo s k
      have zh := zs_hi s k
      have f0 := fl8_in s k
      rw [← HZ.out] at f0
      have f1 := f0.1
      have f2 := f0.2
      have v1 : (z * 256 + zs s k).tmod 2130706433 = (z * 256 + zs s k) % 2130706433 := Int.tmod_eq_emod_of_nonneg (by omega)
      have HN := hik (show (z * 256 + zs s k) % 2130706433 = fl8 s (k + 1) by rw [HZ.out]; rfl)
      clear f0
      go_wp2
      go_round
      case rel => exact ⟨k + 1, _, by omega, by go_num, rfl, HN⟩
      case measure => simp [intOf]; omega
    · obtain rfl : k = 8 := by omega
      go_wp2
      go_ret
      exact ⟨by rw [HZ.out]; rfl, rfl⟩

end Go.Proofs.YtgiefpipflcbgaqGreatDoor

namespace Go.Proofs.YtgiefpipflcbgaqGreatDoor
open Go.ChangeShapes Go.WideShapes Go.ChangeAt Go.RowKit
set_option linter.unusedVariables false
set_option linter.unusedSimpArgs false

/-- The number that four bytes from i on are. -/
def w4 (z : Nat → Int) (i : Nat) : Int := z i * 16777216 + z (i + 1) * 65536 + z (i + 2) * 256 + z (i + 3)

theorem or_nat64 (a b : Nat) (ha : a < 2 ^ 62) (hb : b < 2 ^ 62) : bits .or .i64 (a : Int) (b : Int) = ((a ||| b : Nat) : Int) := by
  have h : a ||| b < 2 ^ 62 := Nat.or_lt_two_pow ha hb
  unfold bits
  simp only [BitVec.ofInt_natCast]
  rw [BitVec.toNat_or, BitVec.toNat_ofNat, BitVec.toNat_ofNat]
  rw [Nat.mod_eq_of_lt (show a < 2 ^ IntKind.i64.bits from Nat.lt_of_lt_of_le ha (by decide)), Nat.mod_eq_of_lt (show b < 2 ^ IntKind.i64.bits from Nat.lt_of_lt_of_le hb (by decide)), IntKind.wrap_i64]
  omega
theorem or_low (a b i m : Nat) (hm : m = 2 ^ i) (h : a < m) : (b * m) ||| a = b * m + a := by
  subst hm
  rw [← Nat.shiftLeft_eq, Nat.shiftLeft_add_eq_or_of_lt h]
theorem w4_bits (a b c d : Int) (a0 : 0 ≤ a) (a1 : a < 256) (b0 : 0 ≤ b) (b1 : b < 256) (c0 : 0 ≤ c) (c1 : c < 256) (d0 : 0 ≤ d) (d1 : d < 256) :
    bits BinOp.or IntKind.i64 (bits BinOp.or IntKind.i64 (bits BinOp.or IntKind.i64 (a * 16777216) (b * 65536)) (c * 256)) d = a * 16777216 + b * 65536 + c * 256 + d := by
  obtain ⟨n0, rfl⟩ := Int.eq_ofNat_of_zero_le a0
  obtain ⟨n1, rfl⟩ := Int.eq_ofNat_of_zero_le b0
  obtain ⟨n2, rfl⟩ := Int.eq_ofNat_of_zero_le c0
  obtain ⟨n3, rfl⟩ := Int.eq_ofNat_of_zero_le d0
  have e0 : ((n0 : Int) * 16777216) = ((n0 * 16777216 : Nat) : Int) := by omega
  have e1 : ((n1 : Int) * 65536) = ((n1 * 65536 : Nat) : Int) := by omega
  have e2 : ((n2 : Int) * 256) = ((n2 * 256 : Nat) : Int) := by omega
  rw [e0, e1, e2, or_nat64 _ _ (by omega) (by omega), or_low (n1 * 65536) n0 24 16777216 (by decide) (by omega)]
  rw [or_nat64 _ _ (by omega) (by omega), show n0 * 16777216 + n1 * 65536 = (n0 * 256 + n1) * 65536 by omega, or_low (n2 * 256) _ 16 65536 (by decide) (by omega)]
  rw [or_nat64 _ _ (by omega) (by omega), show (n0 * 256 + n1) * 65536 + n2 * 256 = ((n0 * 256 + n1) * 256 + n2) * 256 by omega, or_low n3 _ 8 256 (by decide) (by omega)]
  omega

set_option maxHeartbeats 1000000 in
theorem wordAt_any (xb xo n cap i : Nat) (z : Nat → Int) (w : World) (h0 : w.cell? ⟨xb, xo, none⟩ = some (.int .u8 (z i))) (h1 : w.cell? ⟨xb, xo + 1, none⟩ = some (.int .u8 (z (i + 1)))) (h2 : w.cell? ⟨xb, xo + 2, none⟩ = some (.int .u8 (z (i + 2)))) (h3 : w.cell? ⟨xb, xo + 3, none⟩ = some (.int .u8 (z (i + 3))))
    (a0 : 0 ≤ z i) (a1 : z i < 256) (b0 : 0 ≤ z (i + 1)) (b1 : z (i + 1) < 256) (c0 : 0 ≤ z (i + 2)) (c1 : z (i + 2) < 256) (d0 : 0 ≤ z (i + 3)) (d1 : z (i + 3) < 256) (hn : (4 : Int) ≤ (n : Int)) (hm : (n : Int) ≤ 1099511627776) :
    Calls Tryz.prog 152 #[.slice (some ⟨xb, xo, none⟩) n cap] w fun e w' => e = .returned (.int .i64 (w4 z i)) ∧ Chg nob w w' := by
  have e0 : (0 : Int) < (n : Int) := by omega
  have e1 : (1 : Int) < (n : Int) := by omega
  have e2 : (2 : Int) < (n : Int) := by omega
  have e3 : (3 : Int) < (n : Int) := by omega
  go_enter Tryz.func152, Tryz.ntmps152
  go_wp2
  go_quiet (fail)
  go_wp2
  go_ret
  exact ⟨ret_int (w4_bits _ _ _ _ a0 a1 b0 b1 c0 c1 d0 d1), (Chg.refl _ _).drewN _⟩

end Go.Proofs.YtgiefpipflcbgaqGreatDoor

namespace Go.Proofs.YtgiefpipflcbgaqGreatDoor
open Go.ChangeShapes Go.WideShapes Go.ChangeAt Go.RowKit
set_option linter.unusedVariables false
set_option maxRecDepth 100000
set_option linter.unusedSimpArgs false

/-- Eight bytes as a number. -/
def w8 (z : Nat → Int) (i : Nat) : Int := w4 z i * 4294967296 + w4 z (i + 4)
theorem w4_in {z : Nat → Int} (h : isB z) (i : Nat) : 0 ≤ w4 z i ∧ w4 z i < 4294967296 := by
  have h0 := h i
  have h1 := h (i + 1)
  have h2 := h (i + 2)
  have h3 := h (i + 3)
  unfold w4
  omega
theorem or_u64 (a b : Nat) (ha : a < 2 ^ 64) (hb : b < 2 ^ 64) : bits .or .u64 (a : Int) (b : Int) = ((a ||| b : Nat) : Int) := by
  have h : a ||| b < 2 ^ 64 := Nat.or_lt_two_pow ha hb
  unfold bits
  simp only [BitVec.ofInt_natCast]
  rw [BitVec.toNat_or, BitVec.toNat_ofNat, BitVec.toNat_ofNat]
  rw [Nat.mod_eq_of_lt (show a < 2 ^ IntKind.u64.bits from ha), Nat.mod_eq_of_lt (show b < 2 ^ IntKind.u64.bits from hb), IntKind.wrap_u64]
  omega
theorem w8_bits (x y : Int) (x0 : 0 ≤ x) (x1 : x < 4294967296) (y0 : 0 ≤ y) (y1 : y < 4294967296) : bits .or .u64 (x * 4294967296) y = x * 4294967296 + y := by
  obtain ⟨a, rfl⟩ := Int.eq_ofNat_of_zero_le x0
  obtain ⟨b, rfl⟩ := Int.eq_ofNat_of_zero_le y0
  rw [show ((a : Int) * 4294967296) = ((a * 4294967296 : Nat) : Int) by omega, or_u64 _ _ (by omega) (by omega), or_low b a 32 4294967296 (by decide) (by omega)]
  omega

set_option maxHeartbeats 2000000 in
theorem longWord_any (xb xo n cap i : Nat) (z : Nat → Int) (w : World) (h : Hid (∀ j, j < 8 → w.cell? ⟨xb, xo + j, none⟩ = some (.int .u8 (z (i + j))))) (hz : Hid (isB z)) (hn : (8 : Int) ≤ (n : Int)) (hc : (n : Int) ≤ (cap : Int)) (hm : (n : Int) ≤ 1099511627776) (hc' : (cap : Int) ≤ 9223372036854775807) :
    Calls Tryz.prog 150 #[.slice (some ⟨xb, xo, none⟩) n cap] w fun e w' => e = .returned (.int .i64 (w8 z i % 2130706433)) ∧ Chg nob w w' := by
  have hf : (4 : Int) ≤ (n : Int) := by omega
  have hf' : (4 : Int) ≤ (cap : Int) := by omega
  have hf2 : ¬ (cap : Int) - 4 = 0 := by omega
  have hf3 : ¬ cap - 4 = 0 := by omega
  have hf4 : ¬ cap = 4 := by omega
  have HN := hik (show 8 ≤ n by omega)
  obtain ⟨x, hx⟩ : ∃ x, x = w4 z i := ⟨_, rfl⟩
  obtain ⟨y, hy⟩ : ∃ y, y = w4 z (i + 4) := ⟨_, rfl⟩
  have x0 : 0 ≤ x := by rw [hx]; exact (w4_in hz.out i).1
  have x1 : x < 4294967296 := by rw [hx]; exact (w4_in hz.out i).2
  have y0 : 0 ≤ y := by rw [hy]; exact (w4_in hz.out (i + 4)).1
  have y1 : y < 4294967296 := by rw [hy]; exact (w4_in hz.out (i + 4)).2
  have E := hik (show w8 z i = x * 4294967296 + y by unfold w8; rw [hx, hy])
  have B := hik (w8_bits x y x0 x1 y0 y1)
  have HX := hik hx
  have HY := hik hy
  clear hx hy
  have wx : IntKind.u64.wrap x = x := by rw [IntKind.wrap_u64]; omega
  have wy : IntKind.u64.wrap y = y := by rw [IntKind.wrap_u64]; omega
  have ws : IntKind.u64.wrap (x * 4294967296) = x * 4294967296 := by rw [IntKind.wrap_u64]; omega
  go_enter Tryz.func150, Tryz.ntmps150
  go_upto_region 1 with fail
  go_cut [3] from 4 (fun v W => v = .int .u64 (x * 4294967296 + y) ∧ Hid (Chg nob w W))
  case first =>
    refine wp_region_held_drew (S := fun _ => True) (by kernel_rfl) True.intro (fun hHeld => ?_)
    refine wpAnyH_take (i := 0) (v := ?_) rfl (by kernel_rfl) (by kernel_rfl) (by kernel_rfl) (fun _ _ _ h => h) (Or.inl ⟨by rfl, ?_⟩) (by assumption) ?_
    rotate_left 1
    · (intro w' hSw; (try dsimp only at hSw); go_simp; try with_reducible rfl)
    try simp only [Act.put, List.setIfInBounds_toArray, List.set_cons_zero, List.set_cons_succ, List.getElem_toArray, List.getElem_cons_zero, List.getElem_cons_succ]
    refine wpAnyH_take (i := 4) (v := ?_) rfl (by kernel_rfl) (by kernel_rfl) (by kernel_rfl) (fun _ _ _ h => h) (Or.inl ⟨by rfl, ?_⟩) (by assumption) ?_
    rotate_left 1
    · (intro w' hSw; (try dsimp only at hSw); go_simp; try with_reducible rfl)
    try simp only [Act.put, List.setIfInBounds_toArray, List.set_cons_zero, List.set_cons_succ, List.getElem_toArray, List.getElem_cons_zero, List.getElem_cons_succ]
    refine wpAnyH_take (i := 5) (v := ?_) rfl (by kernel_rfl) (by kernel_rfl) (by kernel_rfl) (fun _ _ _ h => h) (Or.inl ⟨by rfl, ?_⟩) (by assumption) ?_
    rotate_left 1
    · (intro w' hSw; (try dsimp only at hSw); go_simp; try with_reducible rfl)
    try simp only [Act.put, List.setIfInBounds_toArray, List.set_cons_zero, List.set_cons_succ, List.getElem_toArray, List.getElem_cons_zero, List.getElem_cons_succ]
    refine wpAnyH_ready (rs := [1]) (by kernel_rfl) (by simp) ?_
    refine AllReadyH.cons rfl (fun K hK => ?_) AllReadyH.nil
    refine stepL_callN 152 #[.tmp 4] #[106] (by rfl) (by rfl) #[.slice (some ⟨xb, xo, none⟩) n cap] (by simp only [List.map_toArray, List.map_cons, List.map_nil]; rfl) (run_go Tryz.func152 (by kernel_rfl) (by kernel_rfl) _ _) (wordAt_any xb (xo) (n) (cap) (i) z _ ((Chg.refl nob w).drew1.see (h.out 0 (by omega))) ((Chg.refl nob w).drew1.see (h.out 1 (by omega))) ((Chg.refl nob w).drew1.see (h.out 2 (by omega))) ((Chg.refl nob w).drew1.see (h.out 3 (by omega))) (hz.out _).1 (hz.out _).2 (hz.out _).1 (hz.out _).2 (hz.out _).1 (hz.out _).2 (hz.out _).1 (hz.out _).2 (by have := HN.out; omega) (by omega)) ?_
    rintro e W1 ⟨he, kW1⟩
    have he : e = .returned (.int .i64 x) := by rw [HX.out]; exact he
    refine ⟨_, he, ?_⟩
    refine hK.out _ _ True.intro (fun hHeld => ?_)
    clear hK K
    try simp only [Act.put, List.setIfInBounds_toArray, List.set_cons_zero, List.set_cons_succ, List.getElem_toArray, List.getElem_cons_zero, List.getElem_cons_succ]
    clear he
    have K1 := hik ((Chg.refl nob w).drew1.trans kW1)
    clear kW1
    refine wpAnyH_take (i := 2) (v := ?_) rfl (by kernel_rfl) (by kernel_rfl) (by kernel_rfl) (fun _ _ _ h => h) (Or.inl ⟨by rfl, ?_⟩) (by assumption) ?_
    rotate_left 1
    · (intro w' hSw; (try dsimp only at hSw); go_simp; try with_reducible rfl)
    try simp only [Act.put, List.setIfInBounds_toArray, List.set_cons_zero, List.set_cons_succ, List.getElem_toArray, List.getElem_cons_zero, List.getElem_cons_succ]
    refine wpAnyH_take (i := 3) (v := ?_) rfl (by kernel_rfl) (by kernel_rfl) (by kernel_rfl) (fun _ _ _ h => h) (Or.inl ⟨by rfl, ?_⟩) (by assumption) ?_
    rotate_left 1
    · (intro w' hSw; (try dsimp only at hSw); go_simp; try with_reducible rfl)
    try simp only [Act.put, List.setIfInBounds_toArray, List.set_cons_zero, List.set_cons_succ, List.getElem_toArray, List.getElem_cons_zero, List.getElem_cons_succ]
    refine wpAnyH_ready (rs := [6]) (by kernel_rfl) (by simp) ?_
    refine AllReadyH.cons rfl (fun K hK => ?_) AllReadyH.nil
    refine stepL_callN 152 #[.tmp 9] #[106] (by rfl) (by rfl) #[.slice (some ⟨xb, xo + 4, none⟩) (n - 4) (cap - 4)] (by simp only [List.map_toArray, List.map_cons, List.map_nil]; rfl) (run_go Tryz.func152 (by kernel_rfl) (by kernel_rfl) _ _) (wordAt_any xb (xo + 4) (n - 4) (cap - 4) (i + 4) z _ (K1.out.see (h.out 4 (by omega))) (K1.out.see (h.out 5 (by omega))) (K1.out.see (h.out 6 (by omega))) (K1.out.see (h.out 7 (by omega))) (hz.out _).1 (hz.out _).2 (hz.out _).1 (hz.out _).2 (hz.out _).1 (hz.out _).2 (hz.out _).1 (hz.out _).2 (by have := HN.out; omega) (by omega)) ?_
    rintro e W2 ⟨he, kW2⟩
    have he : e = .returned (.int .i64 y) := by rw [HY.out]; exact he
    refine ⟨_, he, ?_⟩
    refine hK.out _ _ True.intro (fun hHeld => ?_)
    clear hK K
    try simp only [Act.put, List.setIfInBounds_toArray, List.set_cons_zero, List.set_cons_succ, List.getElem_toArray, List.getElem_cons_zero, List.getElem_cons_succ]
    clear he
    have K2 := hik (K1.out.trans kW2)
    clear kW2
    refine wpAnyH_take (i := 7) (v := ?_) rfl (by kernel_rfl) (by kernel_rfl) (by kernel_rfl) (fun _ _ _ h => h) (Or.inl ⟨by rfl, ?_⟩) (by assumption) ?_
    rotate_left 1
    · (intro w' hSw; (try dsimp only at hSw); go_simp; try with_reducible rfl)
    try simp only [Act.put, List.setIfInBounds_toArray, List.set_cons_zero, List.set_cons_succ, List.getElem_toArray, List.getElem_cons_zero, List.getElem_cons_succ]
    refine wpAnyH_take (i := 8) (v := ?_) rfl (by kernel_rfl) (by kernel_rfl) (by kernel_rfl) (fun _ _ _ h => h) (Or.inl ⟨by rfl, ?_⟩) (by assumption) ?_
    rotate_left 1
    · (intro w' hSw; (try dsimp only at hSw); go_simp; try with_reducible rfl)
    try simp only [Act.put, List.setIfInBounds_toArray, List.set_cons_zero, List.set_cons_succ, List.getElem_toArray, List.getElem_cons_zero, List.getElem_cons_succ]
    refine wpAnyH_take (i := 9) (v := ?_) rfl (by kernel_rfl) (by kernel_rfl) (by kernel_rfl) (fun _ _ _ h => h) (Or.inl ⟨by rfl, ?_⟩) (by assumption) ?_
    rotate_left 1
    · (intro w' hSw; (try dsimp only at hSw); go_simp; try with_reducible rfl)
    try simp only [Act.put, List.setIfInBounds_toArray, List.set_cons_zero, List.set_cons_succ, List.getElem_toArray, List.getElem_cons_zero, List.getElem_cons_succ]
    refine wpAnyH_done (by kernel_rfl) ?_ _
    go_wp2_with fail
    go_meet
    case rel => exact ⟨congrArg (Value.int .u64) B.out, K2⟩
  case rest =>
    obtain ⟨rfl, K2⟩ := hcut
    have v1 : (x * 4294967296 + y).tmod 2130706433 = (x * 4294967296 + y) % 2130706433 := Int.tmod_eq_emod_of_nonneg (by omega)
    have v2 : (x * 4294967296 + y) % 2130706433 ≤ 2130706432 := by omega
    have v3 : 0 ≤ (x * 4294967296 + y) % 2130706433 := by omega
    go_wp2
    go_ret
    exact ⟨by rw [E.out]; rfl, K2.out⟩

end Go.Proofs.YtgiefpipflcbgaqGreatDoor
