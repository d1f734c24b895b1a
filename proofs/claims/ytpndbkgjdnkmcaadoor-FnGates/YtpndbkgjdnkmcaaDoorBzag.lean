/- Several texts in one: What the drawn source of the specification gives, at a seat of any kind: each draw returns a number in its range and writes into the source alone. Conditions: those of each theorem. · Words on memory for drawn sources. No condition but those that each theorem states. -/
import Derived.Test.YtpndbkgjdnkmcaaDoorBzaf
import Derived.Test.YtpndbkgjdnkmcaaDoorBzad
import Derived.Below
import Derived.WalkSmall
import Derived.RegionTactic
import Derived.ChangeAlike
import Derived.BigRegion
import Derived.Deep.QuietTactic
import Derived.BigQuiet
namespace Go.Proofs.YtpndbkgjdnkmcaaDoor
open Go.ChangeShapes Go.WideShapes Go.ChangeAt Go.RowKit
set_option linter.unusedVariables false
set_option maxRecDepth 100000
set_option linter.unusedSimpArgs false

/-- Block b holds a source that has drawn at most n bytes; its code lies below it. -/
def Src (n : Nat) (w : World) (b : Nat) : Prop := ∃ (c : Option Addr) (len cap k : Nat) (seed : Int),
  w.cell? ⟨b, 0, none⟩ = some (.slice c len cap) ∧ w.cell? ⟨b, 1, none⟩ = some (.int .i64 k) ∧ w.cell? ⟨b, 2, none⟩ = some (.int .i64 seed) ∧
  w.frozen? ⟨b, 1, none⟩ = false ∧ w.frozen? ⟨b, 2, none⟩ = false ∧ b < w.heap.size ∧ k ≤ n ∧ 0 ≤ seed ∧ seed < 2147483648 ∧ (len : Int) ≤ 9223372036854775807 ∧
  ∀ i, i < len → ∃ (xb xo : Nat) (z : Int), c = some ⟨xb, xo, none⟩ ∧ xb < b ∧ w.cell? ⟨xb, xo + i, none⟩ = some (.int .u8 z) ∧ 0 ≤ z ∧ z ≤ 255

theorem Src.mono {n m : Nat} {w : World} {b : Nat} (h : Src n w b) (k : n ≤ m) : Src m w b := by
  obtain ⟨c, len, cap, j, seed, a0, a1, a2, a3, a4, a5, a6, a7⟩ := h
  exact ⟨c, len, cap, j, seed, a0, a1, a2, a3, a4, a5, by omega, a7⟩
theorem Src.drewN {n : Nat} {w : World} {b : Nat} (h : Src n w b) (m : Nat) : Src n (w.drewN m) b := h

/-- The two stores of a draw. -/
theorem Src.put {n : Nat} {w : World} {b : Nat} (h : Src n w b) (k : Nat) (seed : Int) (hk : k ≤ n + 1) (s0 : 0 ≤ seed) (s1 : seed < 2147483648) :
    Src (n + 1) ((w.setCell ⟨b, 1, none⟩ (.int .i64 k)).setCell ⟨b, 2, none⟩ (.int .i64 seed)) b := by
  obtain ⟨c, len, cap, j, sd, a0, a1, a2, a3, a4, a5, a6, a7, a8, a9, a10⟩ := h
  refine ⟨c, len, cap, k, seed, ?_, ?_, ?_, by simpa using a3, by simpa using a4, by simpa using a5, hk, s0, s1, a9, ?_⟩
  · rw [World.cell?_setCell_other _ _ _ _ (by simp), World.cell?_setCell_other _ _ _ _ (by simp), a0]
  · rw [World.cell?_setCell_other _ _ _ _ (by simp)]
    exact World.cell?_setCell_same _ _ _ a1
  · exact World.cell?_setCell_same _ _ _ (u := .int .i64 sd) (by rw [World.cell?_setCell_other _ _ _ _ (by simp), a2])
  · intro i hi
    obtain ⟨xb, xo, z, e, l, cz, z0, z1⟩ := a10 i hi
    have hn : b ≠ xb := by omega
    exact ⟨xb, xo, z, e, l, by rw [World.cell?_setCell_other _ _ _ _ (fun h => hn (congrArg Addr.block h)), World.cell?_setCell_other _ _ _ _ (fun h => hn (congrArg Addr.block h)), cz], z0, z1⟩
theorem Src.put1 {n : Nat} {w : World} {b : Nat} (h : Src n w b) (k : Nat) (hk : k ≤ n + 1) :
    Src (n + 1) (w.setCell ⟨b, 1, none⟩ (.int .i64 k)) b := by
  obtain ⟨c, len, cap, j, sd, a0, a1, a2, a3, a4, a5, a6, a7, a8, a9, a10⟩ := h
  refine ⟨c, len, cap, k, sd, ?_, ?_, ?_, by simpa using a3, by simpa using a4, by simpa using a5, hk, a7, a8, a9, ?_⟩
  · rw [World.cell?_setCell_other _ _ _ _ (by simp), a0]
  · exact World.cell?_setCell_same _ _ _ a1
  · rw [World.cell?_setCell_other _ _ _ _ (by simp), a2]
  · intro i hi
    obtain ⟨xb, xo, z, e, l, cz, z0, z1⟩ := a10 i hi
    have hn : b ≠ xb := by omega
    exact ⟨xb, xo, z, e, l, by rw [World.cell?_setCell_other _ _ _ _ (fun h => hn (congrArg Addr.block h)), cz], z0, z1⟩
theorem setCell_drewN (w : World) (a : Addr) (v : Value) (m : Nat) : (w.drewN m).setCell a v = (w.setCell a v).drewN m := rfl

set_option maxHeartbeats 1000000 in
theorem byte_in (b xb xo k len cap : Nat) (seed z : Int) (w : World) (hne : xb < b)
    (c0 : w.cell? ⟨b, 0, none⟩ = some (.slice (some ⟨xb, xo, none⟩) len cap))
    (c1 : w.cell? ⟨b, 1, none⟩ = some (.int .i64 k)) (c2 : w.cell? ⟨b, 2, none⟩ = some (.int .i64 seed))
    (f1 : w.frozen? ⟨b, 1, none⟩ = false) (f2 : w.frozen? ⟨b, 2, none⟩ = false)
    (cz : w.cell? ⟨xb, xo + k, none⟩ = some (.int .u8 z)) (hk : k < len) (hl : (len : Int) ≤ 9223372036854775807)
    (s0 : 0 ≤ seed) (s1 : seed < 2147483648) (z0 : 0 ≤ z) (z1 : z ≤ 255) :
    Calls Tryd.prog 43 #[.pointer (some ⟨b, 0, none⟩)] w fun e w' => e = .returned (.int .i64 z) ∧ ∃ n, w' = (((w.setCell ⟨b, 1, none⟩ (.int .i64 ((k : Int) + 1))).setCell ⟨b, 2, none⟩ (.int .i64 ((seed * 31 + z + 7) % 2147483648))).drewN n) := by
  have hki : (k : Int) + 1 ≤ (len : Int) := by omega
  have hne' : ¬ xb = b := by omega
  go_enter Tryd.func43, Tryd.ntmps43
  go_wp2
  go_quiet (fail)
  go_wp2
  go_region
  go_wp2
  go_quiet (fail)
  go_wp2
  go_ret
  exact ⟨rfl, _, by rw [setCell_drewN, World.drewN_drewN]⟩

set_option maxRecDepth 100000 in
set_option maxHeartbeats 1000000 in
theorem byte_out (b k len cap : Nat) (c : Option Addr) (seed : Int) (w : World)
    (c0 : w.cell? ⟨b, 0, none⟩ = some (.slice c len cap))
    (c1 : w.cell? ⟨b, 1, none⟩ = some (.int .i64 k)) (c2 : w.cell? ⟨b, 2, none⟩ = some (.int .i64 seed))
    (f1 : w.frozen? ⟨b, 1, none⟩ = false) (f2 : w.frozen? ⟨b, 2, none⟩ = false)
    (hk : len ≤ k) (hk3 : k < 3000) (s0 : 0 ≤ seed) (s1 : seed < 2147483648) :
    Calls Tryd.prog 43 #[.pointer (some ⟨b, 0, none⟩)] w fun e w' => e = .returned (.int .i64 ((seed * 1103515245 + 12345) % 2147483648 / 65536 % 256)) ∧ ∃ n, w' = (((w.setCell ⟨b, 1, none⟩ (.int .i64 ((k : Int) + 1))).setCell ⟨b, 2, none⟩ (.int .i64 ((seed * 1103515245 + 12345) % 2147483648))).drewN n) := by
  have hki : ¬ (k : Int) + 1 ≤ (len : Int) := by omega
  have hkj : ¬ 3000 < (k : Int) + 1 := by omega
  go_enter Tryd.func43, Tryd.ntmps43
  go_wp2
  go_quiet (fail)
  go_wp2
  go_ret
  exact ⟨rfl, _, rfl⟩

set_option maxHeartbeats 1000000 in
theorem byte_end (b k len cap : Nat) (c : Option Addr) (w : World)
    (c0 : w.cell? ⟨b, 0, none⟩ = some (.slice c len cap))
    (c1 : w.cell? ⟨b, 1, none⟩ = some (.int .i64 k)) 
    (f1 : w.frozen? ⟨b, 1, none⟩ = false)
    (hk : len ≤ k) (hk3 : 3000 ≤ k) (hk4 : (k : Int) ≤ 1000000000000) :
    Calls Tryd.prog 43 #[.pointer (some ⟨b, 0, none⟩)] w fun e w' => e = .returned (.int .i64 0) ∧ ∃ n, w' = ((w.setCell ⟨b, 1, none⟩ (.int .i64 ((k : Int) + 1))).drewN n) := by
  have hki : ¬ (k : Int) + 1 ≤ (len : Int) := by omega
  have hkj : 3000 < (k : Int) + 1 := by omega
  go_enter Tryd.func43, Tryd.ntmps43
  go_wp2
  go_quiet (fail)
  go_wp2
  go_ret
  exact ⟨rfl, _, rfl⟩

theorem emod_bd (r N : Int) (h : 1 < N) : 0 ≤ r % N ∧ r % N ≤ N - 1 :=
  ⟨Int.emod_nonneg _ (by omega), by have := Int.emod_lt_of_pos r (show 0 < N by omega); omega⟩

/-- A draw: a number of lo to hi; the source has drawn at most n bytes then; nothing but it has turned. -/
def DrawnC (lo hi : Int) (n b : Nat) (w : World) (e : Ending) (w' : World) : Prop :=
  ∃ r : Int, e = .returned (.int .i64 r) ∧ lo ≤ r ∧ r ≤ hi ∧ Src n w' b ∧ Chg (fun k => k = b) w w'
theorem chg_put (w : World) (b : Nat) (x y : Value) (n : Nat) : Chg (fun k => k = b) w (((w.setCell ⟨b, 1, none⟩ x).setCell ⟨b, 2, none⟩ y).drewN n) :=
  (((Chg.refl (fun k => k = b) w).setCell (p := ⟨b, 1, none⟩) (fun _ => rfl) x).setCell (p := ⟨b, 2, none⟩) (fun _ => rfl) y).drewN n
theorem chg_put1 (w : World) (b : Nat) (x : Value) (n : Nat) : Chg (fun k => k = b) w ((w.setCell ⟨b, 1, none⟩ x).drewN n) :=
  ((Chg.refl (fun k => k = b) w).setCell (p := ⟨b, 1, none⟩) (fun _ => rfl) x).drewN n
theorem Src.chg {P : Nat → Prop} {n : Nat} {w w' : World} {b : Nat} (h : Src n w b) (k : Chg P w w') (hp : ∀ i, i ≤ b → ¬ P i) : Src n w' b := by
  obtain ⟨c, len, cap, j, seed, a0, a1, a2, a3, a4, a5, a6, a7, a8, a9, a10⟩ := h
  refine ⟨c, len, cap, j, seed, ?_, ?_, ?_, ?_, ?_, Nat.lt_of_lt_of_le a5 k.size, a6, a7, a8, a9, ?_⟩
  · rw [k.cell (p := ⟨b, 0, none⟩) a5 (hp b (Nat.le_refl _)), a0]
  · rw [k.cell (p := ⟨b, 1, none⟩) a5 (hp b (Nat.le_refl _)), a1]
  · rw [k.cell (p := ⟨b, 2, none⟩) a5 (hp b (Nat.le_refl _)), a2]
  · rw [World.frozen?_of_block (a := ⟨b, 1, none⟩) (k.block b a5 (hp b (Nat.le_refl _))), a3]
  · rw [World.frozen?_of_block (a := ⟨b, 2, none⟩) (k.block b a5 (hp b (Nat.le_refl _))), a4]
  · intro i hi
    obtain ⟨xb, xo, z, e, l, cz, z0, z1⟩ := a10 i hi
    exact ⟨xb, xo, z, e, l, by rw [k.cell (p := ⟨xb, xo + i, none⟩) (Nat.lt_trans l a5) (hp xb (Nat.le_of_lt l)), cz], z0, z1⟩
theorem Src.keep {n : Nat} {w w' : World} {b : Nat} (h : Src n w b) (k : Chg nob w w') : Src n w' b := h.chg k (fun _ _ x => x)
theorem Src.lt {n : Nat} {w : World} {b : Nat} (h : Src n w b) : b < w.heap.size := by
  obtain ⟨c, len, cap, j, seed, a0, a1, a2, a3, a4, a5, _⟩ := h
  exact a5

theorem byteC_any (n b : Nat) (w : World) (h : Src n w b) (hn : n ≤ 1000000000000) :
    Calls Tryd.prog 43 #[.pointer (some ⟨b, 0, none⟩)] w fun e w' => DrawnC 0 255 (n + 1) b w e w' := by
  have hs := h
  obtain ⟨c, len, cap, k, seed, a0, a1, a2, a3, a4, a5, a6, a7, a8, a9, a10⟩ := h
  by_cases hk : k < len
  · obtain ⟨xb, xo, z, rfl, l, cz, z0, z1⟩ := a10 k hk
    refine (byte_in b xb xo k len cap seed z w l a0 a1 a2 a3 a4 cz hk a9 a7 a8 z0 z1).mono ?_
    rintro e w' ⟨rfl, m, rfl⟩
    exact ⟨z, rfl, z0, z1, (hs.put (k + 1) ((seed * 31 + z + 7) % 2147483648) (by omega) (by omega) (by omega)).drewN m, chg_put _ _ _ _ _⟩
  · by_cases hk3 : k < 3000
    · refine (byte_out b k len cap c seed w a0 a1 a2 a3 a4 (by omega) hk3 a7 a8).mono ?_
      rintro e w' ⟨rfl, m, rfl⟩
      exact ⟨_, rfl, by omega, by omega, (hs.put (k + 1) ((seed * 1103515245 + 12345) % 2147483648) (by omega) (by omega) (by omega)).drewN m, chg_put _ _ _ _ _⟩
    · refine (byte_end b k len cap c w a0 a1 a3 (by omega) (by omega) (by omega)).mono ?_
      rintro e w' ⟨rfl, m, rfl⟩
      exact ⟨0, rfl, by omega, by omega, (hs.put1 (k + 1) (by omega)).drewN m, chg_put1 _ _ _ _⟩

set_option maxHeartbeats 1000000 in
theorem nextC_small (N : Int) (n b : Nat) (w : World) (h : Hid (Src n w b)) (hn : n ≤ 999999999000) (N1 : 1 < N) (N2 : N ≤ 256) :
    Calls Tryd.prog 34 #[.pointer (some ⟨b, 0, none⟩), .int .i64 N] w fun e w' => DrawnC 0 (N - 1) (n + 3) b w e w' := by
  have N3 : ¬ N ≤ 1 := by omega
  go_enter Tryd.func34, Tryd.ntmps34
  go_wp2_with fail
  refine (byteC_any n b _ h.out (by omega)).mono ?_
  rintro e w' ⟨r, rfl, r0, r1, hS, hB⟩
  have HS := hik hS
  clear hS
  have hm := emod_bd r N N1
  go_wp2
  go_ret
  exact ⟨_, rfl, hm.1, hm.2, HS.out.mono (by omega), hB⟩

set_option maxHeartbeats 1000000 in
theorem nextC_great (N : Int) (n b : Nat) (w : World) (h : Hid (Src n w b)) (hn : n ≤ 999999999000) (N1 : 256 < N) (N2 : N ≤ 1000000000) :
    Calls Tryd.prog 34 #[.pointer (some ⟨b, 0, none⟩), .int .i64 N] w fun e w' => DrawnC 0 (N - 1) (n + 3) b w e w' := by
  have N3 : ¬ N ≤ 1 := by omega
  have N4 : ¬ N ≤ 256 := by omega
  go_enter Tryd.func34, Tryd.ntmps34
  go_wp2_with fail
  refine (byteC_any n b _ h.out (by omega)).mono ?_
  rintro e w1 ⟨r, rfl, r0, r1, hS, hB⟩
  have HS := hik hS
  have HB := hik hB
  clear hS h hB
  go_wp2_with fail
  refine (byteC_any _ b _ HS.out (by omega)).mono ?_
  rintro e w2 ⟨s, rfl, s0, s1, hS2, hB2⟩
  have HS2 := hik hS2
  have HB2 := hik hB2
  clear hS2 HS hB2
  go_wp2_with fail
  refine (byteC_any _ b _ HS2.out (by omega)).mono ?_
  rintro e w3 ⟨t, rfl, t0, t1, hS3, hB3⟩
  have HS3 := hik hS3
  have HB3 := hik hB3
  clear hS3 HS2 hB3
  have hm := emod_bd (r * 65536 + s * 256 + t) N (by omega)
  go_wp2
  go_ret
  exact ⟨_, rfl, hm.1, hm.2, HS3.out, (HB.out.trans HB2.out).trans HB3.out⟩

theorem nextC_any (N : Int) (n b : Nat) (w : World) (h : Src n w b) (hn : n ≤ 999999999000) (N1 : 1 < N) (N2 : N ≤ 1000000000) :
    Calls Tryd.prog 34 #[.pointer (some ⟨b, 0, none⟩), .int .i64 N] w fun e w' => DrawnC 0 (N - 1) (n + 3) b w e w' := by
  by_cases hN : N ≤ 256
  · exact nextC_small N n b w h hn N1 hN
  · exact nextC_great N n b w h hn (by omega) N2

/-- A slice of bytes that can be read. -/
def Bytes (w : World) (c : Option Addr) (len : Nat) : Prop :=
  ∀ i, i < len → ∃ (xb xo : Nat) (z : Int), c = some ⟨xb, xo, none⟩ ∧ xb < w.heap.size ∧ w.cell? ⟨xb, xo + i, none⟩ = some (.int .u8 z) ∧ 0 ≤ z ∧ z ≤ 255
theorem bytes_of_row {w : World} {a : Option Addr} {len cap : Nat} {zs : List Int}
    (h : (a = none ∧ len = 0 ∧ cap = 0 ∧ zs = []) ∨ ∃ x, a = some x ∧ len ≤ cap ∧ cap ≤ maxLen ∧ zs.length = cap ∧ (∀ i, i < zs.length → w.cell? (x.add i) = some (.int .u8 (zs.getD i 0))) ∧ ∀ n ∈ zs, (Lit.int .u8 n).wf = true) :
    Bytes w a len ∧ (len : Int) ≤ 9223372036854775807 := by
  rcases h with ⟨rfl, rfl, rfl, rfl⟩ | ⟨x, rfl, hl, hm, hz, hc, hw⟩
  · exact ⟨fun i hi => by omega, by omega⟩
  · unfold maxLen at hm
    refine ⟨fun i hi => ?_, by omega⟩
    obtain ⟨b, o, rfl, hc'⟩ := ints_at hc (by omega)
    have hcell := hc' i (by omega)
    have hb := range_u8 hw i
    exact ⟨b, o, _, rfl, block_lt_of_cell hcell, hcell, hb.1, hb.2⟩
theorem Bytes.below {w w' : World} {a : Option Addr} {len : Nat} (h : Bytes w a len) (hb : Below w.heap.size w w') : Bytes w' a len := by
  intro i hi
  obtain ⟨xb, xo, z, e, l, cz, z0, z1⟩ := h i hi
  exact ⟨xb, xo, z, e, Nat.lt_of_lt_of_le l hb.size, by rw [hb.cell l, cz], z0, z1⟩
/-- A new source. -/
def NewSrc (w : World) (e : Ending) (w' : World) : Prop := e = .returned (.pointer (some ⟨w.heap.size, 0, none⟩)) ∧ Src 0 w' w.heap.size ∧ Below w.heap.size w w'

theorem src_new (c : Option Addr) (len cap : Nat) (seed : Int) (T : TypeId) (w : World) (h : Bytes w c len) (hl : (len : Int) ≤ 9223372036854775807) (s0 : 0 ≤ seed) (s1 : seed < 2147483648) :
    Src 0 (w.alloc (.cells #[.slice c len cap, .int .i64 0, .int .i64 seed] T)) w.heap.size := by
  refine ⟨c, len, cap, 0, seed, by go_simp, by go_simp, by go_simp, by go_simp, by go_simp, by simp, Nat.le_refl _, s0, s1, hl, ?_⟩
  intro i hi
  obtain ⟨xb, xo, z, e, l, cz, z0, z1⟩ := h i hi
  refine ⟨xb, xo, z, e, l, ?_, z0, z1⟩
  rw [← cz]
  exact ((Below.refl w.heap.size w).alloc (Nat.le_refl _) _).cell l

set_option maxHeartbeats 1000000 in
theorem l00Source_any (c : Option Addr) (len cap : Nat) (w : World) (h : Bytes w c len) (hl : (len : Int) ≤ 9223372036854775807) :
    Calls Tryd.prog 19 #[.slice c len cap] w fun e w' => NewSrc w e w' := by
  have H := hik h
  clear h
  go_enter Tryd.func19, Tryd.ntmps19
  go_wp2
  go_ret
  exact ⟨rfl, src_new c len cap _ _ w H.out hl (by omega) (by omega), (Below.refl _ _).alloc (Nat.le_refl _) _⟩


end Go.Proofs.YtpndbkgjdnkmcaaDoor

namespace Go.Proofs.YtpndbkgjdnkmcaaDoor
open Go.ChangeShapes Go.WideShapes Go.ChangeAt Go.RowKit
set_option linter.unusedVariables false
set_option maxRecDepth 100000
set_option linter.unusedSimpArgs false

theorem chg_of_below {w w' : World} (h : Below w.heap.size w w') : Chg nob w w' := ⟨h.os, h.tape, h.output, h.size, fun k hk _ => h.block k hk⟩


end Go.Proofs.YtpndbkgjdnkmcaaDoor
