/- Several texts in one: What the program makes of eight bytes: a contract. Condition: at least eight bytes that can be read. · What a sponge and a script draw, by the program: contracts. Conditions: a state of 32 bytes, numbers of a right source, rows that can be read; the tables hold the shifts and the rounds' constants. -/
import Derived.Test.YtccgjbdjbgefiaaGreatDoorBzat
import Derived.Test.YtccgjbdjbgefiaaGreatDoorBzar
import Derived.Test.YtccgjbdjbgefiaaGreatDoorBzaf
import Derived.Test.YtccgjbdjbgefiaaGreatDoorBzal
import Derived.Deep.QuietTactic
import Derived.BigQuiet
import Derived.Test.YtccgjbdjbgefiaaGreatDoorBzbd
import Derived.Test.YtccgjbdjbgefiaaGreatDoorBzas
import Derived.BigRegion
namespace Go.Proofs.YtccgjbdjbgefiaaGreatDoor
open Go.ChangeShapes Go.WideShapes Go.ChangeAt Go.RowKit
set_option linter.unusedVariables false
set_option maxRecDepth 100000
set_option linter.unusedSimpArgs false

/-- Eight bytes as a number. -/
def w8 (z : Nat → Int) (i : Nat) : Int := w4 z i * 4294967296 + w4 z (i + 4)
theorem w4_in {z : Nat → Int} (h : isB z) (i : Nat) : 0 ≤ w4 z i ∧ w4 z i < 4294967296 := by
  have h0 := h i
  have h1 := h (i + 1)
  have h2 := h (i + 2)
  have h3 := h (i + 3)
  unfold w4
  omega
theorem or_u64 (a b : Nat) (ha : a < 2 ^ 64) (hb : b < 2 ^ 64) : bits .or .u64 (a : Int) (b : Int) = ((a ||| b : Nat) : Int) := by
  have h : a ||| b < 2 ^ 64 := Nat.or_lt_two_pow ha hb
  unfold bits
  simp only [BitVec.ofInt_natCast]
  rw [BitVec.toNat_or, BitVec.toNat_ofNat, BitVec.toNat_ofNat]
  rw [Nat.mod_eq_of_lt (show a < 2 ^ IntKind.u64.bits from ha), Nat.mod_eq_of_lt (show b < 2 ^ IntKind.u64.bits from hb), IntKind.wrap_u64]
  omega
theorem w8_bits (x y : Int) (x0 : 0 ≤ x) (x1 : x < 4294967296) (y0 : 0 ≤ y) (y1 : y < 4294967296) : bits .or .u64 (x * 4294967296) y = x * 4294967296 + y := by
  obtain ⟨a, rfl⟩ := Int.eq_ofNat_of_zero_le x0
  obtain ⟨b, rfl⟩ := Int.eq_ofNat_of_zero_le y0
  rw [show ((a : Int) * 4294967296) = ((a * 4294967296 : Nat) : Int) by omega, or_u64 _ _ (by omega) (by omega), or_low b a 32 4294967296 (by decide) (by omega)]
  omega

set_option maxHeartbeats 2000000 in
theorem longWord_any (xb xo n cap i : Nat) (z : Nat → Int) (w : World) (h : Hid (∀ j, j < 8 → w.cell? ⟨xb, xo + j, none⟩ = some (.int .u8 (z (i + j))))) (hz : Hid (isB z)) (hn : (8 : Int) ≤ (n : Int)) (hc : (n : Int) ≤ (cap : Int)) (hm : (n : Int) ≤ 1099511627776) (hc' : (cap : Int) ≤ 9223372036854775807) :
    Calls Tryz.prog 121 #[.slice (some ⟨xb, xo, none⟩) n cap] w fun e w' => e = .returned (.int .i64 (w8 z i % 2130706433)) ∧ Chg nob w w' := by
  have hf : (4 : Int) ≤ (n : Int) := by omega
  have hf' : (4 : Int) ≤ (cap : Int) := by omega
  have hf2 : ¬ (cap : Int) - 4 = 0 := by omega
  have hf3 : ¬ cap - 4 = 0 := by omega
  have hf4 : ¬ cap = 4 := by omega
  have HN := hik (show 8 ≤ n by omega)
  obtain ⟨x, hx⟩ : ∃ x, x = w4 z i := ⟨_, rfl⟩
  obtain ⟨y, hy⟩ : ∃ y, y = w4 z (i + 4) := ⟨_, rfl⟩
  have x0 : 0 ≤ x := by rw [hx]; exact (w4_in hz.out i).1
  have x1 : x < 4294967296 := by rw [hx]; exact (w4_in hz.out i).2
  have y0 : 0 ≤ y := by rw [hy]; exact (w4_in hz.out (i + 4)).1
  have y1 : y < 4294967296 := by rw [hy]; exact (w4_in hz.out (i + 4)).2
  have E := hik (show w8 z i = x * 4294967296 + y by unfold w8; rw [hx, hy])
  have B := hik (w8_bits x y x0 x1 y0 y1)
  have HX := hik hx
  have HY := hik hy
  clear hx hy
  have wx : IntKind.u64.wrap x = x := by rw [IntKind.wrap_u64]; omega
  have wy : IntKind.u64.wrap y = y := by rw [IntKind.wrap_u64]; omega
  have ws : IntKind.u64.wrap (x * 4294967296) = x * 4294967296 := by rw [IntKind.wrap_u64]; omega
  go_enter Tryz.func121, Tryz.ntmps121
  go_upto_region 1 with fail
  go_cut [3] from 4 (fun v W => v = .int .u64 (x * 4294967296 + y) ∧ Hid (Chg nob w W))
  case first =>
    refine wp_region_held_drew (S := fun _ => True) (by kernel_rfl) True.intro (fun hHeld => ?_)
    refine wpAnyH_take (i := 0) (v := ?_) rfl (by kernel_rfl) (by kernel_rfl) (by kernel_rfl) (fun _ _ _ h => h) (Or.inl ⟨by rfl, ?_⟩) (by assumption) ?_
    rotate_left 1
    · (intro w' hSw; (try dsimp only at hSw); go_simp; try with_reducible rfl)
    try simp only [Act.put, List.setIfInBounds_toArray, List.set_cons_zero, List.set_cons_succ, List.getElem_toArray, List.getElem_cons_zero, List.getElem_cons_succ]
    refine wpAnyH_take (i := 4) (v := ?_) rfl (by kernel_rfl) (by kernel_rfl) (by kernel_rfl) (fun _ _ _ h => h) (Or.inl ⟨by rfl, ?_⟩) (by assumption) ?_
    rotate_left 1
    · (intro w' hSw; (try dsimp only at hSw); go_simp; try with_reducible rfl)
    try simp only [Act.put, List.setIfInBounds_toArray, List.set_cons_zero, List.set_cons_succ, List.getElem_toArray, List.getElem_cons_zero, List.getElem_cons_succ]
    refine wpAnyH_take (i := 5) (v := ?_) rfl (by kernel_rfl) (by kernel_rfl) (by kernel_rfl) (fun _ _ _ h => h) (Or.inl ⟨by rfl, ?_⟩) (by assumption) ?_
    rotate_left 1
    · (intro w' hSw; (try dsimp only at hSw); go_simp; try with_reducible rfl)
    try simp only [Act.put, List.setIfInBounds_toArray, List.set_cons_zero, List.set_cons_succ, List.getElem_toArray, List.getElem_cons_zero, List.getElem_cons_succ]
    refine wpAnyH_ready (rs := [1]) (by kernel_rfl) (by simp) ?_
    refine AllReadyH.cons rfl (fun K hK => ?_) AllReadyH.nil
    refine stepL_callN 123 #[.tmp 4] #[86] (by rfl) (by rfl) #[.slice (some ⟨xb, xo, none⟩) n cap] (by simp only [List.map_toArray, List.map_cons, List.map_nil]; rfl) (run_go Tryz.func123 (by kernel_rfl) (by kernel_rfl) _ _) (wordAt_any xb (xo) (n) (cap) (i) z _ ((Chg.refl nob w).drew1.see (h.out 0 (by omega))) ((Chg.refl nob w).drew1.see (h.out 1 (by omega))) ((Chg.refl nob w).drew1.see (h.out 2 (by omega))) ((Chg.refl nob w).drew1.see (h.out 3 (by omega))) (hz.out _).1 (hz.out _).2 (hz.out _).1 (hz.out _).2 (hz.out _).1 (hz.out _).2 (hz.out _).1 (hz.out _).2 (by have := HN.out; omega) (by omega)) ?_
    rintro e W1 ⟨he, kW1⟩
    have he : e = .returned (.int .i64 x) := by rw [HX.out]; exact he
    refine ⟨_, he, ?_⟩
    refine hK.out _ _ True.intro (fun hHeld => ?_)
    clear hK K
    try simp only [Act.put, List.setIfInBounds_toArray, List.set_cons_zero, List.set_cons_succ, List.getElem_toArray, List.getElem_cons_zero, List.getElem_cons_succ]
    clear he
    have K1 := hik ((Chg.refl nob w).drew1.trans kW1)
    clear kW1
    refine wpAnyH_take (i := 2) (v := ?_) rfl (by kernel_rfl) (by kernel_rfl) (by kernel_rfl) (fun _ _ _ h => h) (Or.inl ⟨by rfl, ?_⟩) (by assumption) ?_
    rotate_left 1
    · (intro w' hSw; (try dsimp only at hSw); go_simp; try with_reducible rfl)
    try simp only [Act.put, List.setIfInBounds_toArray, List.set_cons_zero, List.set_cons_succ, List.getElem_toArray, List.getElem_cons_zero, List.getElem_cons_succ]
    refine wpAnyH_take (i := 3) (v := ?_) rfl (by kernel_rfl) (by kernel_rfl) (by kernel_rfl) (fun _ _ _ h => h) (Or.inl ⟨by rfl, ?_⟩) (by assumption) ?_
    rotate_left 1
    · (intro w' hSw; (try dsimp only at hSw); go_simp; try with_reducible rfl)
    try simp only [Act.put, List.setIfInBounds_toArray, List.set_cons_zero, List.set_cons_succ, List.getElem_toArray, List.getElem_cons_zero, List.getElem_cons_succ]
    refine wpAnyH_ready (rs := [6]) (by kernel_rfl) (by simp) ?_
    refine AllReadyH.cons rfl (fun K hK => ?_) AllReadyH.nil
    refine stepL_callN 123 #[.tmp 9] #[86] (by rfl) (by rfl) #[.slice (some ⟨xb, xo + 4, none⟩) (n - 4) (cap - 4)] (by simp only [List.map_toArray, List.map_cons, List.map_nil]; rfl) (run_go Tryz.func123 (by kernel_rfl) (by kernel_rfl) _ _) (wordAt_any xb (xo + 4) (n - 4) (cap - 4) (i + 4) z _ (K1.out.see (h.out 4 (by omega))) (K1.out.see (h.out 5 (by omega))) (K1.out.see (h.out 6 (by omega))) (K1.out.see (h.out 7 (by omega))) (hz.out _).1 (hz.out _).2 (hz.out _).1 (hz.out _).2 (hz.out _).1 (hz.out _).2 (hz.out _).1 (hz.out _).2 (by have := HN.out; omega) (by omega)) ?_
    rintro e W2 ⟨he, kW2⟩
    have he : e = .returned (.int .i64 y) := by rw [HY.out]; exact he
    refine ⟨_, he, ?_⟩
    refine hK.out _ _ True.intro (fun hHeld => ?_)
    clear hK K
    try simp only [Act.put, List.setIfInBounds_toArray, List.set_cons_zero, List.set_cons_succ, List.getElem_toArray, List.getElem_cons_zero, List.getElem_cons_succ]
    clear he
    have K2 := hik (K1.out.trans kW2)
    clear kW2
    refine wpAnyH_take (i := 7) (v := ?_) rfl (by kernel_rfl) (by kernel_rfl) (by kernel_rfl) (fun _ _ _ h => h) (Or.inl ⟨by rfl, ?_⟩) (by assumption) ?_
    rotate_left 1
    · (intro w' hSw; (try dsimp only at hSw); go_simp; try with_reducible rfl)
    try simp only [Act.put, List.setIfInBounds_toArray, List.set_cons_zero, List.set_cons_succ, List.getElem_toArray, List.getElem_cons_zero, List.getElem_cons_succ]
    refine wpAnyH_take (i := 8) (v := ?_) rfl (by kernel_rfl) (by kernel_rfl) (by kernel_rfl) (fun _ _ _ h => h) (Or.inl ⟨by rfl, ?_⟩) (by assumption) ?_
    rotate_left 1
    · (intro w' hSw; (try dsimp only at hSw); go_simp; try with_reducible rfl)
    try simp only [Act.put, List.setIfInBounds_toArray, List.set_cons_zero, List.set_cons_succ, List.getElem_toArray, List.getElem_cons_zero, List.getElem_cons_succ]
    refine wpAnyH_take (i := 9) (v := ?_) rfl (by kernel_rfl) (by kernel_rfl) (by kernel_rfl) (fun _ _ _ h => h) (Or.inl ⟨by rfl, ?_⟩) (by assumption) ?_
    rotate_left 1
    · (intro w' hSw; (try dsimp only at hSw); go_simp; try with_reducible rfl)
    try simp only [Act.put, List.setIfInBounds_toArray, List.set_cons_zero, List.set_cons_succ, List.getElem_toArray, List.getElem_cons_zero, List.getElem_cons_succ]
    refine wpAnyH_done (by kernel_rfl) ?_ _
    go_wp2_with fail
    go_meet
    case rel => exact ⟨congrArg (Value.int .u64) B.out, K2⟩
  case rest =>
    obtain ⟨rfl, K2⟩ := hcut
    have v1 : (x * 4294967296 + y).tmod 2130706433 = (x * 4294967296 + y) % 2130706433 := Int.tmod_eq_emod_of_nonneg (by omega)
    have v2 : (x * 4294967296 + y) % 2130706433 ≤ 2130706432 := by omega
    have v3 : 0 ≤ (x * 4294967296 + y) % 2130706433 := by omega
    go_wp2
    go_ret
    exact ⟨by rw [E.out]; rfl, K2.out⟩

end Go.Proofs.YtccgjbdjbgefiaaGreatDoor

namespace Go.Proofs.YtccgjbdjbgefiaaGreatDoor
open Go.ChangeShapes Go.WideShapes Go.ChangeAt Go.RowKit
set_option linter.unusedVariables false
set_option maxRecDepth 100000
set_option linter.unusedSimpArgs false

theorem zs_cut (s : ByteArray) (a b i : Nat) (hb : b ≤ s.size) (hi : a + i < b) : zs (s.extract a b) i = zs s (a + i) := by
  have h1 : i < (s.extract a b).size := by simp; omega
  rw [← zs_at _ _ h1, ← zs_at s (a + i) (by omega)]
  congr 1
  simp [ByteArray.getElem_extract]
theorem acc_step (a z : Int) : (a % 2130706433 * 256 + z) % 2130706433 = (a * 256 + z) % 2130706433 := by
  rw [Int.add_emod, Int.mul_emod, Int.emod_emod, ← Int.mul_emod, ← Int.add_emod]
/-- Eight bytes by the model's way are those of the program's. -/
theorem fl8_w8 (h : ByteArray) (a : Nat) (hs : a + 8 ≤ h.size) : fl8 (h.extract a (a + 8)) 8 = w8 (zs h) a % 2130706433 := by
  simp only [fl8]
  rw [zs_cut h a (a + 8) 0 hs (by omega), zs_cut h a (a + 8) 1 hs (by omega), zs_cut h a (a + 8) 2 hs (by omega), zs_cut h a (a + 8) 3 hs (by omega), zs_cut h a (a + 8) 4 hs (by omega), zs_cut h a (a + 8) 5 hs (by omega), zs_cut h a (a + 8) 6 hs (by omega), zs_cut h a (a + 8) 7 hs (by omega)]
  simp only [acc_step, w8, w4, Nat.add_zero, Nat.add_assoc]
  congr 1
  have e : ∀ x0 x1 x2 x3 x4 x5 x6 x7 : Int, ((((((((0 * 256 + x0) * 256 + x1) * 256 + x2) * 256 + x3) * 256 + x4) * 256 + x5) * 256 + x6) * 256 + x7) = (x0 * 16777216 + x1 * 65536 + x2 * 256 + x3) * 4294967296 + (x4 * 16777216 + x5 * 65536 + x6 * 256 + x7) := fun x0 x1 x2 x3 x4 x5 x6 x7 => by omega
  exact e _ _ _ _ _ _ _ _
theorem drA_w8 (st : ByteArray) (ct : Int) : drA st ct = w8 (zs (drH st ct)) 0 % 2130706433 := fl8_w8 (drH st ct) 0 (by unfold drH; rw [hsh_size]; omega)
theorem drB_w8 (st : ByteArray) (ct : Int) : drB st ct = w8 (zs (drH st ct)) 8 % 2130706433 := fl8_w8 (drH st ct) 8 (by unfold drH; rw [hsh_size]; omega)

/-- A drawn element in its block, and what is kept beside it. -/
def PtE (w : World) (st : ByteArray) (ct x y : Int) (v : Value) (W : World) : Prop := ∃ X : Nat, v = .pointer (some ⟨X, 0, none⟩) ∧ W.rowIs X 31 2 (pi2 x y) ∧ w.heap.size + 2 ≤ X ∧ W.rowIs w.heap.size 133 2 (pv2 (.string st) (.int .i64 ct)) ∧ W.rowIs (w.heap.size + 1) 31 2 (pi2 0 0) ∧ Chg nob w W
/-- The hash's bytes, and what is kept beside them. -/
def HshW (w : World) (h st : ByteArray) (ct : Int) (v : Value) (W : World) : Prop := HshV w h v W ∧ W.rowIs w.heap.size 133 2 (pv2 (.string st) (.int .i64 ct)) ∧ W.rowIs (w.heap.size + 1) 31 2 (pi2 0 0)

set_option maxHeartbeats 2000000 in
theorem spongeDraw_any (st : ByteArray) (ct : Int) (w : World) (htb : Hid (Tabs w)) (hst : st.size = 32) (c0 : 0 ≤ ct) (c1 : ct ≤ 1000000) :
    Calls Tryz.prog 119 #[.agg #[.string st, .int .i64 ct]] w fun e w' => e = .returned (.tuple #[.agg #[.int .i64 (drA st ct), .int .i64 (drB st ct)], .iface 133 (.agg #[.string st, .int .i64 (ct + 1)])]) ∧ Chg nob w w' := by
  have hst' : (st.size : Int) = 32 := by omega
  have hb4 : (be4 ct).size = 4 := be4_size _
  have hsz : (drT st ct).size ≤ 65536 := by rw [drT_size]; omega
  have HSZ := hik hsz
  clear hsz
  obtain ⟨h, hh⟩ : ∃ h, h = drH st ct := ⟨_, rfl⟩
  have hs32 : h.size = 32 := by rw [hh]; exact hsh_size _
  have EA := hik (show drA st ct = w8 (zs h) 0 % 2130706433 by rw [hh]; exact drA_w8 st ct)
  have EB := hik (show drB st ct = w8 (zs h) 8 % 2130706433 by rw [hh]; exact drB_w8 st ct)
  have HH := hik hh
  have HB := hik (zs_B h)
  clear hh
  obtain ⟨x, hx⟩ : ∃ x, x = w8 (zs h) 0 % 2130706433 := ⟨_, rfl⟩
  obtain ⟨y, hy⟩ : ∃ y, y = w8 (zs h) 8 % 2130706433 := ⟨_, rfl⟩
  rw [← hx] at EA
  rw [← hy] at EB
  have HX := hik hx
  have HY := hik hy
  clear hx hy
  go_enter Tryz.func119, Tryz.ntmps119
  go_upto_region 1 with fail
  go_cut [4] from 6 (fun v W => HshW w h st ct v W)
  case first =>
    refine wp_region_held_drew (S := fun w' => w'.cell? ⟨w.heap.size, 0, none⟩ = some (.string st) ∧ w'.cell? ⟨w.heap.size, 1, none⟩ = some (.int .i64 ct)) (by kernel_rfl) ⟨by go_simp, by go_simp⟩ (fun hHeld => ?_)
    refine wpAnyH_take (i := 0) (v := ?_) rfl (by kernel_rfl) (by kernel_rfl) (by kernel_rfl) (fun _ _ _ h => h) (Or.inl ⟨by rfl, ?_⟩) (by assumption) ?_
    rotate_left 1
    · (intro w' hSw; (try dsimp only at hSw); go_simp; try with_reducible rfl)
    try simp only [Act.put, List.setIfInBounds_toArray, List.set_cons_zero, List.set_cons_succ, List.getElem_toArray, List.getElem_cons_zero, List.getElem_cons_succ]
    refine wpAnyH_take (i := 1) (v := ?_) rfl (by kernel_rfl) (by kernel_rfl) (by kernel_rfl) (fun _ _ _ h => h) (Or.inl ⟨by rfl, ?_⟩) (by assumption) ?_
    rotate_left 1
    · (intro w' hSw; (try dsimp only at hSw); go_simp; try with_reducible rfl)
    try simp only [Act.put, List.setIfInBounds_toArray, List.set_cons_zero, List.set_cons_succ, List.getElem_toArray, List.getElem_cons_zero, List.getElem_cons_succ]
    refine wpAnyH_take (i := 2) (v := ?_) rfl (by kernel_rfl) (by kernel_rfl) (by kernel_rfl) (fun _ _ _ h => h) (Or.inl ⟨by rfl, ?_⟩) (by assumption) ?_
    rotate_left 1
    · (intro w' hSw; (try dsimp only at hSw); go_simp; try with_reducible rfl)
    try simp only [Act.put, List.setIfInBounds_toArray, List.set_cons_zero, List.set_cons_succ, List.getElem_toArray, List.getElem_cons_zero, List.getElem_cons_succ]
    refine wpAnyH_take (i := 3) (v := ?_) rfl (by kernel_rfl) (by kernel_rfl) (by kernel_rfl) (fun _ _ _ h => h) (Or.inl ⟨by rfl, ?_⟩) (by assumption) ?_
    rotate_left 1
    · (intro w' hSw; (try dsimp only at hSw); go_simp; try with_reducible rfl)
    try simp only [Act.put, List.setIfInBounds_toArray, List.set_cons_zero, List.set_cons_succ, List.getElem_toArray, List.getElem_cons_zero, List.getElem_cons_succ]
    refine wpAnyH_take (i := 4) (v := ?_) rfl (by kernel_rfl) (by kernel_rfl) (by kernel_rfl) (fun _ _ _ h => h) (Or.inl ⟨by rfl, ?_⟩) (by assumption) ?_
    rotate_left 1
    · (intro w' hSw; (try dsimp only at hSw); go_simp; try with_reducible rfl)
    try simp only [Act.put, List.setIfInBounds_toArray, List.set_cons_zero, List.set_cons_succ, List.getElem_toArray, List.getElem_cons_zero, List.getElem_cons_succ]
    refine wpAnyH_ready (rs := [5]) (by kernel_rfl) (by simp) ?_
    refine AllReadyH.cons rfl (fun K hK => ?_) AllReadyH.nil
    refine stepL_callN 91 #[.tmp 10] #[3] (by rfl) (by rfl) #[.int .i64 ct] (by simp only [List.map_toArray, List.map_cons, List.map_nil]; rfl) (run_go Tryz.func91 (by kernel_rfl) (by kernel_rfl) _ _) (wordText_any ct _ c0 (by omega)) ?_
    rintro e W1 ⟨he, k1⟩
    refine ⟨_, he, ?_⟩
    refine hK.out _ _ ⟨k1.see hHeld.1, k1.see hHeld.2⟩ (fun hHeld => ?_)
    clear hK K
    try simp only [Act.put, List.setIfInBounds_toArray, List.set_cons_zero, List.set_cons_succ, List.getElem_toArray, List.getElem_cons_zero, List.getElem_cons_succ]
    have K1 := hik ((Chg.refl nob ((w.alloc (.cells #[.string st, .int .i64 ct] 133)).alloc (.cells #[.int .i64 0, .int .i64 0] 31))).drew1.trans k1)
    clear he k1
    refine wpAnyH_take (i := 6) (v := ?_) rfl (by kernel_rfl) (by kernel_rfl) (by kernel_rfl) (fun _ _ _ h => h) (Or.inl ⟨by rfl, ?_⟩) (by assumption) ?_
    rotate_left 1
    · (intro w' hSw; (try dsimp only at hSw); go_simp; try with_reducible rfl)
    try simp only [Act.put, List.setIfInBounds_toArray, List.set_cons_zero, List.set_cons_succ, List.getElem_toArray, List.getElem_cons_zero, List.getElem_cons_succ]
    refine wpAnyH_ready (rs := [7]) (by kernel_rfl) (by simp) ?_
    refine AllReadyH.cons rfl (fun K hK => ?_) AllReadyH.nil
    refine stepL_callN 120 #[.tmp 12] #[9] (by rfl) (by rfl) #[.string (drT st ct)] (by simp only [List.map_toArray, List.map_cons, List.map_nil]; rfl) (run_go Tryz.func120 (by kernel_rfl) (by kernel_rfl) _ _) (hashOf_any (drT st ct) _ (hik (htb.out.keep ((((Chg.refl nob w).alloc _).alloc _).trans K1.out))) HSZ.out) ?_
    rintro e W2 ⟨he, k2⟩
    have he : e = .returned (.string h) := by rw [HH.out]; exact he
    refine ⟨_, he, ?_⟩
    refine hK.out _ _ ⟨k2.see hHeld.1, k2.see hHeld.2⟩ (fun hHeld => ?_)
    clear hK K
    try simp only [Act.put, List.setIfInBounds_toArray, List.set_cons_zero, List.set_cons_succ, List.getElem_toArray, List.getElem_cons_zero, List.getElem_cons_succ]
    have K2 := hik (K1.out.trans k2)
    clear he k2
    obtain ⟨W0, cap0, hcv, HB0, HG0, HC0⟩ := conv_text h W2 (by omega)
    refine wpAnyH_ready (rs := [8]) (by kernel_rfl) (by simp) ?_
    refine AllReadyH.cons rfl (fun K hK => ?_) AllReadyH.nil
    refine stepL_conv 9 86 (.tmp 13) (by rfl) (by rfl) (.string h) _ _ (by rfl) hcv ?_
    refine hK.out _ _ ⟨HG0.out.see hHeld.1, HG0.out.see hHeld.2⟩ (fun hHeld => ?_)
    clear hK K
    try simp only [Act.put, List.setIfInBounds_toArray, List.set_cons_zero, List.set_cons_succ, List.getElem_toArray, List.getElem_cons_zero, List.getElem_cons_succ]
    clear hcv
    refine wpAnyH_take (i := 9) (v := ?_) rfl (by kernel_rfl) (by kernel_rfl) (by kernel_rfl) (fun _ _ _ h => h) (Or.inl ⟨by rfl, ?_⟩) (by assumption) ?_
    rotate_left 1
    · (intro w' hSw; (try dsimp only at hSw); go_simp; try with_reducible rfl)
    try simp only [Act.put, List.setIfInBounds_toArray, List.set_cons_zero, List.set_cons_succ, List.getElem_toArray, List.getElem_cons_zero, List.getElem_cons_succ]
    have KK := hik (K2.out.trans HG0.out)
    refine wpAnyH_done (by kernel_rfl) ?_ _
    go_wp2_with fail
    go_meet
    case rel => exact ⟨⟨W2.heap.size, cap0, rfl, by have := HB0.out.le; omega, HC0, fun j hj => HB0.out.at_ j (by omega), (((Chg.refl nob w).alloc _).alloc _).trans KK.out⟩, rowIs_keep (World.rowIs.alloc (row2_new w _ _ _) _) KK.out, by rw [show w.heap.size + 1 = (w.alloc (.cells #[.string st, .int .i64 ct] 133)).heap.size by simp]; exact rowIs_keep (row2_new (w.alloc (.cells #[.string st, .int .i64 ct] 133)) _ _ _) KK.out⟩
  case rest =>
    obtain ⟨⟨xb, cap0, rfl, hle, hcm, hcell, hg⟩, r0, r1⟩ := hcut
    have G := hik hg
    have R0 := hik r0
    have R1 := hik r1
    have HL := hik hcell
    have hf1 : (8 : Int) ≤ (cap0 : Int) := by omega
    have hf2 : ¬ (cap0 : Int) - 8 = 0 := by omega
    have hf3 : ¬ cap0 - 8 = 0 := by omega
    have hf4 : ¬ cap0 = 8 := by omega
    have HCM := hik hcm
    have HLE := hik hle
    have L1 := hik R1.out.lt
    clear hcell hg r0 r1 hcm hle
    go_upto_region 2 with fail
    go_cut [5] from 6 (fun v W => PtE w st ct x y v W)
    case first =>
      refine wp_region_held_drew (S := fun _ => True) (by kernel_rfl) True.intro (fun hHeld => ?_)
      have KW := hik ((Chg.refl nob wc).drew1)
      refine wpAnyH_take (i := 0) (v := ?_) rfl (by kernel_rfl) (by kernel_rfl) (by kernel_rfl) (fun _ _ _ h => h) (Or.inl ⟨by rfl, ?_⟩) (by assumption) ?_
      rotate_left 1
      · (intro w' hSw; (try dsimp only at hSw); go_simp; try with_reducible rfl)
      try simp only [Act.put, List.setIfInBounds_toArray, List.set_cons_zero, List.set_cons_succ, List.getElem_toArray, List.getElem_cons_zero, List.getElem_cons_succ]
      refine wpAnyH_take (i := 2) (v := ?_) rfl (by kernel_rfl) (by kernel_rfl) (by kernel_rfl) (fun _ _ _ h => h) (Or.inl ⟨by rfl, ?_⟩) (by assumption) ?_
      rotate_left 1
      · (intro w' hSw; (try dsimp only at hSw); go_simp; try with_reducible rfl)
      try simp only [Act.put, List.setIfInBounds_toArray, List.set_cons_zero, List.set_cons_succ, List.getElem_toArray, List.getElem_cons_zero, List.getElem_cons_succ]
      refine wpAnyH_take (i := 3) (v := ?_) rfl (by kernel_rfl) (by kernel_rfl) (by kernel_rfl) (fun _ _ _ h => h) (Or.inl ⟨by rfl, ?_⟩) (by assumption) ?_
      rotate_left 1
      · (intro w' hSw; (try dsimp only at hSw); go_simp; try with_reducible rfl)
      try simp only [Act.put, List.setIfInBounds_toArray, List.set_cons_zero, List.set_cons_succ, List.getElem_toArray, List.getElem_cons_zero, List.getElem_cons_succ]
      refine wpAnyH_ready (rs := [1, 6]) (by kernel_rfl) (by simp) ?_
      refine AllReadyH.cons rfl (fun K hK => ?_) ?_
      · refine stepL_callN 121 #[.tmp 15] #[86] (by rfl) (by rfl) #[.slice (some ⟨xb, 0, none⟩) 32 cap0] (by simp only [List.map_toArray, List.map_cons, List.map_nil]; rfl) (run_go Tryz.func121 (by kernel_rfl) (by kernel_rfl) _ _) (longWord_any xb 0 32 cap0 0 (zs h) _ (hik (fun j hj => KW.out.see (HL.out (0 + j) (by omega)))) HB (by omega) (by have := HLE.out; omega) (by omega) (by have := HCM.out; omega)) ?_
        rintro e W1 ⟨he, kk⟩
        have he : e = .returned (.int .i64 x) := by rw [HX.out]; exact he
        refine ⟨_, he, ?_⟩
        refine hK.out _ _ True.intro (fun hHeld => ?_)
        clear hK K
        try simp only [Act.put, List.setIfInBounds_toArray, List.set_cons_zero, List.set_cons_succ, List.getElem_toArray, List.getElem_cons_zero, List.getElem_cons_succ]
        replace KW := hik (KW.out.trans kk)
        clear he kk
        refine wpAnyH_ready (rs := [4, 6]) (by kernel_rfl) (by simp) ?_
        refine AllReadyH.cons rfl (fun K hK => ?_) ?_
        · refine stepL_callN 121 #[.tmp 18] #[86] (by rfl) (by rfl) #[.slice (some ⟨xb, 8, none⟩) (32 - 8) (cap0 - 8)] (by simp only [List.map_toArray, List.map_cons, List.map_nil]; rfl) (run_go Tryz.func121 (by kernel_rfl) (by kernel_rfl) _ _) (longWord_any xb 8 (32 - 8) (cap0 - 8) 8 (zs h) _ (hik (fun j hj => KW.out.see (HL.out (8 + j) (by omega)))) HB (by omega) (by have := HLE.out; omega) (by omega) (by have := HCM.out; omega)) ?_
          rintro e W2 ⟨he, kk⟩
          have he : e = .returned (.int .i64 y) := by rw [HY.out]; exact he
          refine ⟨_, he, ?_⟩
          refine hK.out _ _ True.intro (fun hHeld => ?_)
          clear hK K
          try simp only [Act.put, List.setIfInBounds_toArray, List.set_cons_zero, List.set_cons_succ, List.getElem_toArray, List.getElem_cons_zero, List.getElem_cons_succ]
          replace KW := hik (KW.out.trans kk)
          clear he kk
          refine wpAnyH_take (i := 5) (v := ?_) rfl (by kernel_rfl) (by kernel_rfl) (by kernel_rfl) (fun _ _ _ h => h) (Or.inl ⟨by rfl, ?_⟩) (by assumption) ?_
          rotate_left 1
          · (intro w' hSw; (try dsimp only at hSw); go_simp; try with_reducible rfl)
          try simp only [Act.put, List.setIfInBounds_toArray, List.set_cons_zero, List.set_cons_succ, List.getElem_toArray, List.getElem_cons_zero, List.getElem_cons_succ]
          refine wpAnyH_ready (rs := [6]) (by kernel_rfl) (by simp) ?_
          refine AllReadyH.cons rfl (fun K hK => ?_) AllReadyH.nil
          have KW0 := hik KW.out
          simp only [List.getElem_toArray, List.getElem_cons_zero, List.getElem_cons_succ]
          go_simp
          refine hK.out _ _ True.intro (fun hHeld => ?_)
          clear hK K
          try simp only [Act.put, List.setIfInBounds_toArray, List.set_cons_zero, List.set_cons_succ, List.getElem_toArray, List.getElem_cons_zero, List.getElem_cons_succ]
          have XR : Hid ((W2.alloc (.cells #[.int .i64 0, .int .i64 0] 31)).rowIs W2.heap.size 31 2 (pi2 0 0)) := hik (row2_new W2 (.int .i64 0) (.int .i64 0) 31)
          have XL := hik (show w.heap.size + 2 ≤ W2.heap.size by have := L1.out; have := KW.out.size; first | omega | (simp at this; omega))
          replace KW := hik (KW.out.alloc (.cells #[.int .i64 0, .int .i64 0] 31))
          refine wpAnyH_ready (rs := [7]) (by kernel_rfl) (by simp) ?_
          refine AllReadyH.cons rfl (fun K hK => ?_) AllReadyH.nil
          have o0 := XR.out.cell (i := 0) (by omega)
          have o1 := XR.out.cell (i := 1) (by omega)
          have v0 := XR.out.frozen 0
          have v1 := XR.out.frozen 1
          simp only [List.getElem_toArray, List.getElem_cons_zero, List.getElem_cons_succ]
          go_simp
          refine hK.out _ _ True.intro (fun hHeld => ?_)
          clear hK K
          try simp only [Act.put, List.setIfInBounds_toArray, List.set_cons_zero, List.set_cons_succ, List.getElem_toArray, List.getElem_cons_zero, List.getElem_cons_succ]
          refine wpAnyH_done (by kernel_rfl) ?_ _
          go_wp2_with fail
          go_meet
          case rel => exact ⟨W2.heap.size, rfl, row2_new W2 _ _ _, XL.out, World.rowIs.alloc (rowIs_keep R0.out KW0.out) _, World.rowIs.alloc (rowIs_keep R1.out KW0.out) _, (G.out.trans KW0.out).alloc _⟩
        · refine AllReadyH.cons rfl (fun K hK => ?_) AllReadyH.nil
          simp only [List.getElem_toArray, List.getElem_cons_zero, List.getElem_cons_succ]
          go_simp
          refine hK.out _ _ True.intro (fun hHeld => ?_)
          clear hK K
          try simp only [Act.put, List.setIfInBounds_toArray, List.set_cons_zero, List.set_cons_succ, List.getElem_toArray, List.getElem_cons_zero, List.getElem_cons_succ]
          have XR : Hid ((W1.alloc (.cells #[.int .i64 0, .int .i64 0] 31)).rowIs W1.heap.size 31 2 (pi2 0 0)) := hik (row2_new W1 (.int .i64 0) (.int .i64 0) 31)
          have XL := hik (show w.heap.size + 2 ≤ W1.heap.size by have := L1.out; have := KW.out.size; first | omega | (simp at this; omega))
          replace KW := hik (KW.out.alloc (.cells #[.int .i64 0, .int .i64 0] 31))
          refine wpAnyH_ready (rs := [4]) (by kernel_rfl) (by simp) ?_
          refine AllReadyH.cons rfl (fun K hK => ?_) AllReadyH.nil
          refine stepL_callN 121 #[.tmp 18] #[86] (by rfl) (by rfl) #[.slice (some ⟨xb, 8, none⟩) (32 - 8) (cap0 - 8)] (by simp only [List.map_toArray, List.map_cons, List.map_nil]; rfl) (run_go Tryz.func121 (by kernel_rfl) (by kernel_rfl) _ _) (longWord_any xb 8 (32 - 8) (cap0 - 8) 8 (zs h) _ (hik (fun j hj => KW.out.see (HL.out (8 + j) (by omega)))) HB (by omega) (by have := HLE.out; omega) (by omega) (by have := HCM.out; omega)) ?_
          rintro e W2 ⟨he, kk⟩
          have he : e = .returned (.int .i64 y) := by rw [HY.out]; exact he
          refine ⟨_, he, ?_⟩
          refine hK.out _ _ True.intro (fun hHeld => ?_)
          clear hK K
          try simp only [Act.put, List.setIfInBounds_toArray, List.set_cons_zero, List.set_cons_succ, List.getElem_toArray, List.getElem_cons_zero, List.getElem_cons_succ]
          replace KW := hik (KW.out.trans kk)
          replace XR := hik (rowIs_keep XR.out kk)
          clear he kk
          refine wpAnyH_take (i := 5) (v := ?_) rfl (by kernel_rfl) (by kernel_rfl) (by kernel_rfl) (fun _ _ _ h => h) (Or.inl ⟨by rfl, ?_⟩) (by assumption) ?_
          rotate_left 1
          · (intro w' hSw; (try dsimp only at hSw); go_simp; try with_reducible rfl)
          try simp only [Act.put, List.setIfInBounds_toArray, List.set_cons_zero, List.set_cons_succ, List.getElem_toArray, List.getElem_cons_zero, List.getElem_cons_succ]
          refine wpAnyH_ready (rs := [7]) (by kernel_rfl) (by simp) ?_
          refine AllReadyH.cons rfl (fun K hK => ?_) AllReadyH.nil
          have o0 := XR.out.cell (i := 0) (by omega)
          have o1 := XR.out.cell (i := 1) (by omega)
          have v0 := XR.out.frozen 0
          have v1 := XR.out.frozen 1
          simp only [List.getElem_toArray, List.getElem_cons_zero, List.getElem_cons_succ]
          go_simp
          refine hK.out _ _ True.intro (fun hHeld => ?_)
          clear hK K
          try simp only [Act.put, List.setIfInBounds_toArray, List.set_cons_zero, List.set_cons_succ, List.getElem_toArray, List.getElem_cons_zero, List.getElem_cons_succ]
          refine wpAnyH_done (by kernel_rfl) ?_ _
          go_wp2_with fail
          go_meet
          case rel => exact ⟨W1.heap.size, rfl, row2_set XR.out _ _, XL.out, row2_other (rowIs_keep R0.out KW.out) (by have := XL.out; omega) _ _, row2_other (rowIs_keep R1.out KW.out) (by have := XL.out; omega) _ _, chg2_set (G.out.trans KW.out) _ (fun l => absurd l (by have := XL.out; omega)) _ _⟩
      · refine AllReadyH.cons rfl (fun K hK => ?_) AllReadyH.nil
        simp only [List.getElem_toArray, List.getElem_cons_zero, List.getElem_cons_succ]
        go_simp
        refine hK.out _ _ True.intro (fun hHeld => ?_)
        clear hK K
        try simp only [Act.put, List.setIfInBounds_toArray, List.set_cons_zero, List.set_cons_succ, List.getElem_toArray, List.getElem_cons_zero, List.getElem_cons_succ]
        have XR : Hid ((wc.drew.alloc (.cells #[.int .i64 0, .int .i64 0] 31)).rowIs wc.heap.size 31 2 (pi2 0 0)) := hik (row2_new wc.drew (.int .i64 0) (.int .i64 0) 31)
        have XL := hik (show w.heap.size + 2 ≤ wc.heap.size by have := L1.out; have := KW.out.size; first | omega | (simp at this; omega))
        replace KW := hik (KW.out.alloc (.cells #[.int .i64 0, .int .i64 0] 31))
        refine wpAnyH_ready (rs := [1]) (by kernel_rfl) (by simp) ?_
        refine AllReadyH.cons rfl (fun K hK => ?_) AllReadyH.nil
        refine stepL_callN 121 #[.tmp 15] #[86] (by rfl) (by rfl) #[.slice (some ⟨xb, 0, none⟩) 32 cap0] (by simp only [List.map_toArray, List.map_cons, List.map_nil]; rfl) (run_go Tryz.func121 (by kernel_rfl) (by kernel_rfl) _ _) (longWord_any xb 0 32 cap0 0 (zs h) _ (hik (fun j hj => KW.out.see (HL.out (0 + j) (by omega)))) HB (by omega) (by have := HLE.out; omega) (by omega) (by have := HCM.out; omega)) ?_
        rintro e W1 ⟨he, kk⟩
        have he : e = .returned (.int .i64 x) := by rw [HX.out]; exact he
        refine ⟨_, he, ?_⟩
        refine hK.out _ _ True.intro (fun hHeld => ?_)
        clear hK K
        try simp only [Act.put, List.setIfInBounds_toArray, List.set_cons_zero, List.set_cons_succ, List.getElem_toArray, List.getElem_cons_zero, List.getElem_cons_succ]
        replace KW := hik (KW.out.trans kk)
        replace XR := hik (rowIs_keep XR.out kk)
        clear he kk
        refine wpAnyH_ready (rs := [4]) (by kernel_rfl) (by simp) ?_
        refine AllReadyH.cons rfl (fun K hK => ?_) AllReadyH.nil
        refine stepL_callN 121 #[.tmp 18] #[86] (by rfl) (by rfl) #[.slice (some ⟨xb, 8, none⟩) (32 - 8) (cap0 - 8)] (by simp only [List.map_toArray, List.map_cons, List.map_nil]; rfl) (run_go Tryz.func121 (by kernel_rfl) (by kernel_rfl) _ _) (longWord_any xb 8 (32 - 8) (cap0 - 8) 8 (zs h) _ (hik (fun j hj => KW.out.see (HL.out (8 + j) (by omega)))) HB (by omega) (by have := HLE.out; omega) (by omega) (by have := HCM.out; omega)) ?_
        rintro e W2 ⟨he, kk⟩
        have he : e = .returned (.int .i64 y) := by rw [HY.out]; exact he
        refine ⟨_, he, ?_⟩
        refine hK.out _ _ True.intro (fun hHeld => ?_)
        clear hK K
        try simp only [Act.put, List.setIfInBounds_toArray, List.set_cons_zero, List.set_cons_succ, List.getElem_toArray, List.getElem_cons_zero, List.getElem_cons_succ]
        replace KW := hik (KW.out.trans kk)
        replace XR := hik (rowIs_keep XR.out kk)
        clear he kk
        refine wpAnyH_take (i := 5) (v := ?_) rfl (by kernel_rfl) (by kernel_rfl) (by kernel_rfl) (fun _ _ _ h => h) (Or.inl ⟨by rfl, ?_⟩) (by assumption) ?_
        rotate_left 1
        · (intro w' hSw; (try dsimp only at hSw); go_simp; try with_reducible rfl)
        try simp only [Act.put, List.setIfInBounds_toArray, List.set_cons_zero, List.set_cons_succ, List.getElem_toArray, List.getElem_cons_zero, List.getElem_cons_succ]
        refine wpAnyH_ready (rs := [7]) (by kernel_rfl) (by simp) ?_
        refine AllReadyH.cons rfl (fun K hK => ?_) AllReadyH.nil
        have o0 := XR.out.cell (i := 0) (by omega)
        have o1 := XR.out.cell (i := 1) (by omega)
        have v0 := XR.out.frozen 0
        have v1 := XR.out.frozen 1
        simp only [List.getElem_toArray, List.getElem_cons_zero, List.getElem_cons_succ]
        go_simp
        refine hK.out _ _ True.intro (fun hHeld => ?_)
        clear hK K
        try simp only [Act.put, List.setIfInBounds_toArray, List.set_cons_zero, List.set_cons_succ, List.getElem_toArray, List.getElem_cons_zero, List.getElem_cons_succ]
        refine wpAnyH_done (by kernel_rfl) ?_ _
        go_wp2_with fail
        go_meet
        case rel => exact ⟨wc.heap.size, rfl, row2_set XR.out _ _, XL.out, row2_other (rowIs_keep R0.out KW.out) (by have := XL.out; omega) _ _, row2_other (rowIs_keep R1.out KW.out) (by have := XL.out; omega) _ _, chg2_set (G.out.trans KW.out) _ (fun l => absurd l (by have := XL.out; omega)) _ _⟩
    case rest =>
      obtain ⟨X, rfl, rx, hX, r0, r1, hg⟩ := hcut
      have G9 := hik hg
      have R9 := hik r1
      have e0 : _ = some (Value.int .i64 x) := rx.cell (i := 0) (by omega)
      have e1 : _ = some (Value.int .i64 y) := rx.cell (i := 1) (by omega)
      have s0 : _ = some (Value.string st) := r0.cell (i := 0) (by omega)
      have s1 : _ = some (Value.int .i64 ct) := r0.cell (i := 1) (by omega)
      have f0 : _ = some (Value.int .i64 0) := r1.cell (i := 0) (by omega)
      have f1 : _ = some (Value.int .i64 0) := r1.cell (i := 1) (by omega)
      have z0 := r1.frozen 0
      have z1 := r1.frozen 1
      have n1 : ¬ X = w.heap.size + 1 := by omega
      have n2 : ¬ w.heap.size + 1 = X := by omega
      clear rx r0 r1 hg R0 R1 G HL HB L1 hX
      go_wp2
      go_region
      go_wp2
      have R8 : Hid (wc.drew.rowIs (w.heap.size + 1) 31 2 (pi2 0 0)) := hik R9.out.drew
      exact bodyPost_ret (v := .tuple #[.agg #[.int .i64 x, .int .i64 y], .iface 133 (.agg #[.string st, .int .i64 (ct + 1)])]) (by simp [results, Tryz.results119, go_sem, row2_s0 R9.out (.int .i64 x), row2_s1 R9.out (.int .i64 x) (.int .i64 y)]) rfl ⟨by rw [EA.out, EB.out], (chg2_set G9.out _ (fun l => absurd l (by simp)) _ _).drew⟩

end Go.Proofs.YtccgjbdjbgefiaaGreatDoor
