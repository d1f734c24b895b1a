/- Several texts in one: What the laws' helpers on slices of strings do: contracts. Conditions: rows that can be read, lengths of at most 2 to the 40. · What the drawn source of the specification gives, at a seat of any kind: each draw returns a number in its range and writes into the source alone. Conditions: those of each theorem. · Words on memory for drawn sources. No condition but those that each theorem states. · What the drawn source gives of elements, at a seat of any kind: contracts. Conditions: those of each theorem. -/
import Derived.Test.YtkpohajmcngjcaaGreatDoorBzaa
import Derived.Deep.QuietTactic
import Derived.BigQuiet
import Derived.Below
import Derived.WalkSmall
import Derived.RegionTactic
import Derived.ChangeAlike
import Derived.BigRegion
import Derived.Test.YtkpohajmcngjcaaGreatDoorBzad
import Derived.Test.YtkpohajmcngjcaaGreatDoorBzae
import Derived.Test.YtkpohajmcngjcaaGreatDoorBzag
namespace Go.Proofs.YtkpohajmcngjcaaGreatDoor
open Go.ChangeShapes Go.WideShapes Go.ChangeAt Go.RowKit
set_option linter.unusedVariables false
set_option maxRecDepth 100000
set_option linter.unusedSimpArgs false

/-- Texts as values. -/
def sb (L : Nat → ByteArray) (i : Nat) : Value := .string (L i)
/-- The empty text. -/
def es : Value := .string ⟨#[]⟩


end Go.Proofs.YtkpohajmcngjcaaGreatDoor

namespace Go.Proofs.YtkpohajmcngjcaaGreatDoor
open Go.ChangeShapes Go.WideShapes Go.ChangeAt Go.RowKit
set_option linter.unusedVariables false
set_option maxRecDepth 100000
set_option linter.unusedSimpArgs false

/-- Block b holds a source that has drawn at most n bytes; its code lies below it. -/
def Src (n : Nat) (w : World) (b : Nat) : Prop := ∃ (c : Option Addr) (len cap k : Nat) (seed : Int),
  w.cell? ⟨b, 0, none⟩ = some (.slice c len cap) ∧ w.cell? ⟨b, 1, none⟩ = some (.int .i64 k) ∧ w.cell? ⟨b, 2, none⟩ = some (.int .i64 seed) ∧
  w.frozen? ⟨b, 1, none⟩ = false ∧ w.frozen? ⟨b, 2, none⟩ = false ∧ b < w.heap.size ∧ k ≤ n ∧ 0 ≤ seed ∧ seed < 2147483648 ∧ (len : Int) ≤ 9223372036854775807 ∧
  ∀ i, i < len → ∃ (xb xo : Nat) (z : Int), c = some ⟨xb, xo, none⟩ ∧ xb < b ∧ w.cell? ⟨xb, xo + i, none⟩ = some (.int .u8 z) ∧ 0 ≤ z ∧ z ≤ 255
/-- A draw: a number of lo to hi; the source has drawn at most n bytes then; nothing below it has turned. -/
def Drawn (lo hi : Int) (n b : Nat) (w : World) (e : Ending) (w' : World) : Prop :=
  ∃ r : Int, e = .returned (.int .i64 r) ∧ lo ≤ r ∧ r ≤ hi ∧ Src n w' b ∧ Below b w w'

theorem Src.mono {n m : Nat} {w : World} {b : Nat} (h : Src n w b) (k : n ≤ m) : Src m w b := by
  obtain ⟨c, len, cap, j, seed, a0, a1, a2, a3, a4, a5, a6, a7⟩ := h
  exact ⟨c, len, cap, j, seed, a0, a1, a2, a3, a4, a5, by omega, a7⟩
theorem Src.drewN {n : Nat} {w : World} {b : Nat} (h : Src n w b) (m : Nat) : Src n (w.drewN m) b := h

/-- The two stores of a draw. -/
theorem Src.put {n : Nat} {w : World} {b : Nat} (h : Src n w b) (k : Nat) (seed : Int) (hk : k ≤ n + 1) (s0 : 0 ≤ seed) (s1 : seed < 2147483648) :
    Src (n + 1) ((w.setCell ⟨b, 1, none⟩ (.int .i64 k)).setCell ⟨b, 2, none⟩ (.int .i64 seed)) b := by
  obtain ⟨c, len, cap, j, sd, a0, a1, a2, a3, a4, a5, a6, a7, a8, a9, a10⟩ := h
  refine ⟨c, len, cap, k, seed, ?_, ?_, ?_, by simpa using a3, by simpa using a4, by simpa using a5, hk, s0, s1, a9, ?_⟩
  · rw [World.cell?_setCell_other _ _ _ _ (by simp), World.cell?_setCell_other _ _ _ _ (by simp), a0]
  · rw [World.cell?_setCell_other _ _ _ _ (by simp)]
    exact World.cell?_setCell_same _ _ _ a1
  · exact World.cell?_setCell_same _ _ _ (u := .int .i64 sd) (by rw [World.cell?_setCell_other _ _ _ _ (by simp), a2])
  · intro i hi
    obtain ⟨xb, xo, z, e, l, cz, z0, z1⟩ := a10 i hi
    have hn : b ≠ xb := by omega
    exact ⟨xb, xo, z, e, l, by rw [World.cell?_setCell_other _ _ _ _ (fun h => hn (congrArg Addr.block h)), World.cell?_setCell_other _ _ _ _ (fun h => hn (congrArg Addr.block h)), cz], z0, z1⟩
theorem Src.put1 {n : Nat} {w : World} {b : Nat} (h : Src n w b) (k : Nat) (hk : k ≤ n + 1) :
    Src (n + 1) (w.setCell ⟨b, 1, none⟩ (.int .i64 k)) b := by
  obtain ⟨c, len, cap, j, sd, a0, a1, a2, a3, a4, a5, a6, a7, a8, a9, a10⟩ := h
  refine ⟨c, len, cap, k, sd, ?_, ?_, ?_, by simpa using a3, by simpa using a4, by simpa using a5, hk, a7, a8, a9, ?_⟩
  · rw [World.cell?_setCell_other _ _ _ _ (by simp), a0]
  · exact World.cell?_setCell_same _ _ _ a1
  · rw [World.cell?_setCell_other _ _ _ _ (by simp), a2]
  · intro i hi
    obtain ⟨xb, xo, z, e, l, cz, z0, z1⟩ := a10 i hi
    have hn : b ≠ xb := by omega
    exact ⟨xb, xo, z, e, l, by rw [World.cell?_setCell_other _ _ _ _ (fun h => hn (congrArg Addr.block h)), cz], z0, z1⟩
theorem setCell_drewN (w : World) (a : Addr) (v : Value) (m : Nat) : (w.drewN m).setCell a v = (w.setCell a v).drewN m := rfl

set_option maxHeartbeats 1000000 in
theorem byte_in (b xb xo k len cap : Nat) (seed z : Int) (w : World) (hne : xb < b)
    (c0 : w.cell? ⟨b, 0, none⟩ = some (.slice (some ⟨xb, xo, none⟩) len cap))
    (c1 : w.cell? ⟨b, 1, none⟩ = some (.int .i64 k)) (c2 : w.cell? ⟨b, 2, none⟩ = some (.int .i64 seed))
    (f1 : w.frozen? ⟨b, 1, none⟩ = false) (f2 : w.frozen? ⟨b, 2, none⟩ = false)
    (cz : w.cell? ⟨xb, xo + k, none⟩ = some (.int .u8 z)) (hk : k < len) (hl : (len : Int) ≤ 9223372036854775807)
    (s0 : 0 ≤ seed) (s1 : seed < 2147483648) (z0 : 0 ≤ z) (z1 : z ≤ 255) :
    Calls Tryz.prog 109 #[.pointer (some ⟨b, 0, none⟩)] w fun e w' => e = .returned (.int .i64 z) ∧ ∃ n, w' = (((w.setCell ⟨b, 1, none⟩ (.int .i64 ((k : Int) + 1))).setCell ⟨b, 2, none⟩ (.int .i64 ((seed * 31 + z + 7) % 2147483648))).drewN n) := by
  have hki : (k : Int) + 1 ≤ (len : Int) := by omega
  have hne' : ¬ xb = b := by omega
  go_enter Tryz.func109, Tryz.ntmps109
  go_wp2
  go_quiet (fail)
  go_wp2
  go_region
  go_wp2
  go_quiet (fail)
  go_wp2
  go_ret
  exact ⟨rfl, _, by rw [setCell_drewN, World.drewN_drewN]⟩

set_option maxRecDepth 100000 in
set_option maxHeartbeats 1000000 in
theorem byte_out (b k len cap : Nat) (c : Option Addr) (seed : Int) (w : World)
    (c0 : w.cell? ⟨b, 0, none⟩ = some (.slice c len cap))
    (c1 : w.cell? ⟨b, 1, none⟩ = some (.int .i64 k)) (c2 : w.cell? ⟨b, 2, none⟩ = some (.int .i64 seed))
    (f1 : w.frozen? ⟨b, 1, none⟩ = false) (f2 : w.frozen? ⟨b, 2, none⟩ = false)
    (hk : len ≤ k) (hk3 : k < 3000) (s0 : 0 ≤ seed) (s1 : seed < 2147483648) :
    Calls Tryz.prog 109 #[.pointer (some ⟨b, 0, none⟩)] w fun e w' => e = .returned (.int .i64 ((seed * 1103515245 + 12345) % 2147483648 / 65536 % 256)) ∧ ∃ n, w' = (((w.setCell ⟨b, 1, none⟩ (.int .i64 ((k : Int) + 1))).setCell ⟨b, 2, none⟩ (.int .i64 ((seed * 1103515245 + 12345) % 2147483648))).drewN n) := by
  have hki : ¬ (k : Int) + 1 ≤ (len : Int) := by omega
  have hkj : ¬ 3000 < (k : Int) + 1 := by omega
  go_enter Tryz.func109, Tryz.ntmps109
  go_wp2
  go_quiet (fail)
  go_wp2
  go_ret
  exact ⟨rfl, _, rfl⟩

set_option maxHeartbeats 1000000 in
theorem byte_end (b k len cap : Nat) (c : Option Addr) (w : World)
    (c0 : w.cell? ⟨b, 0, none⟩ = some (.slice c len cap))
    (c1 : w.cell? ⟨b, 1, none⟩ = some (.int .i64 k)) 
    (f1 : w.frozen? ⟨b, 1, none⟩ = false)
    (hk : len ≤ k) (hk3 : 3000 ≤ k) (hk4 : (k : Int) ≤ 1000000000000) :
    Calls Tryz.prog 109 #[.pointer (some ⟨b, 0, none⟩)] w fun e w' => e = .returned (.int .i64 0) ∧ ∃ n, w' = ((w.setCell ⟨b, 1, none⟩ (.int .i64 ((k : Int) + 1))).drewN n) := by
  have hki : ¬ (k : Int) + 1 ≤ (len : Int) := by omega
  have hkj : 3000 < (k : Int) + 1 := by omega
  go_enter Tryz.func109, Tryz.ntmps109
  go_wp2
  go_quiet (fail)
  go_wp2
  go_ret
  exact ⟨rfl, _, rfl⟩

theorem emod_bd (r N : Int) (h : 1 < N) : 0 ≤ r % N ∧ r % N ≤ N - 1 :=
  ⟨Int.emod_nonneg _ (by omega), by have := Int.emod_lt_of_pos r (show 0 < N by omega); omega⟩

/-- A draw: a number of lo to hi; the source has drawn at most n bytes then; nothing but it has turned. -/
def DrawnC (lo hi : Int) (n b : Nat) (w : World) (e : Ending) (w' : World) : Prop :=
  ∃ r : Int, e = .returned (.int .i64 r) ∧ lo ≤ r ∧ r ≤ hi ∧ Src n w' b ∧ Chg (fun k => k = b) w w'
theorem chg_put (w : World) (b : Nat) (x y : Value) (n : Nat) : Chg (fun k => k = b) w (((w.setCell ⟨b, 1, none⟩ x).setCell ⟨b, 2, none⟩ y).drewN n) :=
  (((Chg.refl (fun k => k = b) w).setCell (p := ⟨b, 1, none⟩) (fun _ => rfl) x).setCell (p := ⟨b, 2, none⟩) (fun _ => rfl) y).drewN n
theorem chg_put1 (w : World) (b : Nat) (x : Value) (n : Nat) : Chg (fun k => k = b) w ((w.setCell ⟨b, 1, none⟩ x).drewN n) :=
  ((Chg.refl (fun k => k = b) w).setCell (p := ⟨b, 1, none⟩) (fun _ => rfl) x).drewN n
theorem Src.chg {P : Nat → Prop} {n : Nat} {w w' : World} {b : Nat} (h : Src n w b) (k : Chg P w w') (hp : ∀ i, i ≤ b → ¬ P i) : Src n w' b := by
  obtain ⟨c, len, cap, j, seed, a0, a1, a2, a3, a4, a5, a6, a7, a8, a9, a10⟩ := h
  refine ⟨c, len, cap, j, seed, ?_, ?_, ?_, ?_, ?_, Nat.lt_of_lt_of_le a5 k.size, a6, a7, a8, a9, ?_⟩
  · rw [k.cell (p := ⟨b, 0, none⟩) a5 (hp b (Nat.le_refl _)), a0]
  · rw [k.cell (p := ⟨b, 1, none⟩) a5 (hp b (Nat.le_refl _)), a1]
  · rw [k.cell (p := ⟨b, 2, none⟩) a5 (hp b (Nat.le_refl _)), a2]
  · rw [World.frozen?_of_block (a := ⟨b, 1, none⟩) (k.block b a5 (hp b (Nat.le_refl _))), a3]
  · rw [World.frozen?_of_block (a := ⟨b, 2, none⟩) (k.block b a5 (hp b (Nat.le_refl _))), a4]
  · intro i hi
    obtain ⟨xb, xo, z, e, l, cz, z0, z1⟩ := a10 i hi
    exact ⟨xb, xo, z, e, l, by rw [k.cell (p := ⟨xb, xo + i, none⟩) (Nat.lt_trans l a5) (hp xb (Nat.le_of_lt l)), cz], z0, z1⟩
theorem Src.keep {n : Nat} {w w' : World} {b : Nat} (h : Src n w b) (k : Chg nob w w') : Src n w' b := h.chg k (fun _ _ x => x)
theorem Src.lt {n : Nat} {w : World} {b : Nat} (h : Src n w b) : b < w.heap.size := by
  obtain ⟨c, len, cap, j, seed, a0, a1, a2, a3, a4, a5, _⟩ := h
  exact a5

theorem byteC_any (n b : Nat) (w : World) (h : Src n w b) (hn : n ≤ 1000000000000) :
    Calls Tryz.prog 109 #[.pointer (some ⟨b, 0, none⟩)] w fun e w' => DrawnC 0 255 (n + 1) b w e w' := by
  have hs := h
  obtain ⟨c, len, cap, k, seed, a0, a1, a2, a3, a4, a5, a6, a7, a8, a9, a10⟩ := h
  by_cases hk : k < len
  · obtain ⟨xb, xo, z, rfl, l, cz, z0, z1⟩ := a10 k hk
    refine (byte_in b xb xo k len cap seed z w l a0 a1 a2 a3 a4 cz hk a9 a7 a8 z0 z1).mono ?_
    rintro e w' ⟨rfl, m, rfl⟩
    exact ⟨z, rfl, z0, z1, (hs.put (k + 1) ((seed * 31 + z + 7) % 2147483648) (by omega) (by omega) (by omega)).drewN m, chg_put _ _ _ _ _⟩
  · by_cases hk3 : k < 3000
    · refine (byte_out b k len cap c seed w a0 a1 a2 a3 a4 (by omega) hk3 a7 a8).mono ?_
      rintro e w' ⟨rfl, m, rfl⟩
      exact ⟨_, rfl, by omega, by omega, (hs.put (k + 1) ((seed * 1103515245 + 12345) % 2147483648) (by omega) (by omega) (by omega)).drewN m, chg_put _ _ _ _ _⟩
    · refine (byte_end b k len cap c w a0 a1 a3 (by omega) (by omega) (by omega)).mono ?_
      rintro e w' ⟨rfl, m, rfl⟩
      exact ⟨0, rfl, by omega, by omega, (hs.put1 (k + 1) (by omega)).drewN m, chg_put1 _ _ _ _⟩

set_option maxHeartbeats 1000000 in
theorem nextC_small (N : Int) (n b : Nat) (w : World) (h : Hid (Src n w b)) (hn : n ≤ 999999999000) (N1 : 1 < N) (N2 : N ≤ 256) :
    Calls Tryz.prog 81 #[.pointer (some ⟨b, 0, none⟩), .int .i64 N] w fun e w' => DrawnC 0 (N - 1) (n + 3) b w e w' := by
  have N3 : ¬ N ≤ 1 := by omega
  go_enter Tryz.func81, Tryz.ntmps81
  go_wp2_with fail
  refine (byteC_any n b _ h.out (by omega)).mono ?_
  rintro e w' ⟨r, rfl, r0, r1, hS, hB⟩
  have HS := hik hS
  clear hS
  have hm := emod_bd r N N1
  go_wp2
  go_ret
  exact ⟨_, rfl, hm.1, hm.2, HS.out.mono (by omega), hB⟩

set_option maxHeartbeats 1000000 in
theorem nextC_great (N : Int) (n b : Nat) (w : World) (h : Hid (Src n w b)) (hn : n ≤ 999999999000) (N1 : 256 < N) (N2 : N ≤ 1000000000) :
    Calls Tryz.prog 81 #[.pointer (some ⟨b, 0, none⟩), .int .i64 N] w fun e w' => DrawnC 0 (N - 1) (n + 3) b w e w' := by
  have N3 : ¬ N ≤ 1 := by omega
  have N4 : ¬ N ≤ 256 := by omega
  go_enter Tryz.func81, Tryz.ntmps81
  go_wp2_with fail
  refine (byteC_any n b _ h.out (by omega)).mono ?_
  rintro e w1 ⟨r, rfl, r0, r1, hS, hB⟩
  have HS := hik hS
  have HB := hik hB
  clear hS h hB
  go_wp2_with fail
  refine (byteC_any _ b _ HS.out (by omega)).mono ?_
  rintro e w2 ⟨s, rfl, s0, s1, hS2, hB2⟩
  have HS2 := hik hS2
  have HB2 := hik hB2
  clear hS2 HS hB2
  go_wp2_with fail
  refine (byteC_any _ b _ HS2.out (by omega)).mono ?_
  rintro e w3 ⟨t, rfl, t0, t1, hS3, hB3⟩
  have HS3 := hik hS3
  have HB3 := hik hB3
  clear hS3 HS2 hB3
  have hm := emod_bd (r * 65536 + s * 256 + t) N (by omega)
  go_wp2
  go_ret
  exact ⟨_, rfl, hm.1, hm.2, HS3.out, (HB.out.trans HB2.out).trans HB3.out⟩

theorem nextC_any (N : Int) (n b : Nat) (w : World) (h : Src n w b) (hn : n ≤ 999999999000) (N1 : 1 < N) (N2 : N ≤ 1000000000) :
    Calls Tryz.prog 81 #[.pointer (some ⟨b, 0, none⟩), .int .i64 N] w fun e w' => DrawnC 0 (N - 1) (n + 3) b w e w' := by
  by_cases hN : N ≤ 256
  · exact nextC_small N n b w h hn N1 hN
  · exact nextC_great N n b w h hn (by omega) N2

/-- A slice of bytes that can be read. -/
def Bytes (w : World) (c : Option Addr) (len : Nat) : Prop :=
  ∀ i, i < len → ∃ (xb xo : Nat) (z : Int), c = some ⟨xb, xo, none⟩ ∧ xb < w.heap.size ∧ w.cell? ⟨xb, xo + i, none⟩ = some (.int .u8 z) ∧ 0 ≤ z ∧ z ≤ 255
theorem Bytes.below {w w' : World} {a : Option Addr} {len : Nat} (h : Bytes w a len) (hb : Below w.heap.size w w') : Bytes w' a len := by
  intro i hi
  obtain ⟨xb, xo, z, e, l, cz, z0, z1⟩ := h i hi
  exact ⟨xb, xo, z, e, Nat.lt_of_lt_of_le l hb.size, by rw [hb.cell l, cz], z0, z1⟩
/-- A new source. -/
def NewSrc (w : World) (e : Ending) (w' : World) : Prop := e = .returned (.pointer (some ⟨w.heap.size, 0, none⟩)) ∧ Src 0 w' w.heap.size ∧ Below w.heap.size w w'

theorem src_new (c : Option Addr) (len cap : Nat) (seed : Int) (T : TypeId) (w : World) (h : Bytes w c len) (hl : (len : Int) ≤ 9223372036854775807) (s0 : 0 ≤ seed) (s1 : seed < 2147483648) :
    Src 0 (w.alloc (.cells #[.slice c len cap, .int .i64 0, .int .i64 seed] T)) w.heap.size := by
  refine ⟨c, len, cap, 0, seed, by go_simp, by go_simp, by go_simp, by go_simp, by go_simp, by simp, Nat.le_refl _, s0, s1, hl, ?_⟩
  intro i hi
  obtain ⟨xb, xo, z, e, l, cz, z0, z1⟩ := h i hi
  refine ⟨xb, xo, z, e, l, ?_, z0, z1⟩
  rw [← cz]
  exact ((Below.refl w.heap.size w).alloc (Nat.le_refl _) _).cell l

set_option maxHeartbeats 1000000 in
theorem l00Source_any (c : Option Addr) (len cap : Nat) (w : World) (h : Bytes w c len) (hl : (len : Int) ≤ 9223372036854775807) :
    Calls Tryz.prog 44 #[.slice c len cap] w fun e w' => NewSrc w e w' := by
  have H := hik h
  clear h
  go_enter Tryz.func44, Tryz.ntmps44
  go_wp2
  go_ret
  exact ⟨rfl, src_new c len cap _ _ w H.out hl (by omega) (by omega), (Below.refl _ _).alloc (Nat.le_refl _) _⟩


end Go.Proofs.YtkpohajmcngjcaaGreatDoor

namespace Go.Proofs.YtkpohajmcngjcaaGreatDoor
open Go.ChangeShapes Go.WideShapes Go.ChangeAt Go.RowKit
set_option linter.unusedVariables false
set_option maxRecDepth 100000
set_option linter.unusedSimpArgs false

theorem chg_of_below {w w' : World} (h : Below w.heap.size w w') : Chg nob w w' := ⟨h.os, h.tape, h.output, h.size, fun k hk _ => h.block k hk⟩

/-- A drawn text of a list. -/
def DrawnT (N : Nat) (L : Nat → ByteArray) (n b : Nat) (w : World) (e : Ending) (w' : World) : Prop :=
  ∃ i, i < N ∧ e = .returned (.string (L i)) ∧ Src n w' b ∧ Chg (fun k => k = b) w w'

set_option maxHeartbeats 1000000 in
theorem pickC_any (c : Option Addr) (N cap n b : Nat) (L : Nat → ByteArray) (w : World) (h : Src n w b) (hl : Hid (RowV w c N (sb L))) (hc : Hid (∀ xb xo, c = some ⟨xb, xo, none⟩ → ¬ xb = b)) (hn : n ≤ 900000000000) (N1 : 2 ≤ N) (N2 : N ≤ 1000) :
    Calls Tryz.prog 85 #[.pointer (some ⟨b, 0, none⟩), .slice c N cap] w fun e w' => DrawnT N L (n + 3) b w e w' := by
  have HS := hik h
  clear h
  have hN0 : ¬ (N : Int) = 0 := by omega
  go_enter Tryz.func85, Tryz.ntmps85
  go_wp2_with fail
  refine (nextC_any (N : Int) n b _ HS.out (by omega) (by omega) (by omega)).mono ?_
  rintro e W1 ⟨r, rfl, r0, r1, hS1, k1⟩
  obtain ⟨i, rfl⟩ : ∃ i : Nat, r = (i : Int) := ⟨r.toNat, by omega⟩
  have hi : i < N := by omega
  have S1 := hik hS1
  have C1 := hik k1
  obtain ⟨xb, xo, rfl, hxb, hcell⟩ := (hl.out.chg k1 (fun xb xo e _ => hc.out xb xo e)) i hi
  have hx : _ = some (Value.string (L i)) := hcell
  clear hS1 k1 hcell
  go_wp2
  go_ret
  exact ⟨i, hi, rfl, S1.out, C1.out⟩

theorem other_block {g b : Nat} (h : b < g) : ∀ xb xo : Nat, some (⟨g, 0, none⟩ : Addr) = some ⟨xb, xo, none⟩ → ¬ xb = b := by
  intro xb xo e
  obtain ⟨rfl, rfl⟩ : g = xb ∧ 0 = xo := by simpa using e
  omega


end Go.Proofs.YtkpohajmcngjcaaGreatDoor

namespace Go.Proofs.YtkpohajmcngjcaaGreatDoor
open Go.ChangeShapes Go.WideShapes Go.ChangeAt Go.RowKit
set_option linter.unusedVariables false
set_option maxRecDepth 100000
set_option linter.unusedSimpArgs false

set_option maxHeartbeats 2000000 in
theorem fieldC_any (n b : Nat) (w : World) (h : Src n w b) (hn : n ≤ 999999998000) :
    Calls Tryz.prog 83 #[.pointer (some ⟨b, 0, none⟩)] w fun e w' => DrawnC 0 2130706432 (n + 18) b w e w' := by
  have H := hide h
  clear h
  go_enter Tryz.func83, Tryz.ntmps83
  go_wp2_with fail
  refine (nextC_any 5 n b _ H.out (by omega) (by omega) (by omega)).mono ?_
  rintro e w1 ⟨r, rfl, r0, r1, hS, hB⟩
  have HS := hide hS
  have HB := hide hB
  clear hS H hB
  have hr : ((r == 0) = true) ∨ ((r == 0) = false ∧ (r == 1) = true) ∨ ((r == 0) = false ∧ (r == 1) = false) := by
    simp only [beq_iff_eq, beq_eq_false_iff_ne]
    omega
  rcases hr with g | ⟨g, g'⟩ | ⟨g, g'⟩
  · go_wp2_with fail
    refine (nextC_any 4 _ b _ HS.out (by omega) (by omega) (by omega)).mono ?_
    rintro e w2 ⟨s, rfl, s0, s1, hS2, hB2⟩
    have HS2 := hide hS2
    have HB2 := hide hB2
    clear hS2 hB2
    go_wp2
    go_ret
    exact ⟨s, rfl, s0, by omega, HS2.out.mono (by omega), HB.out.trans HB2.out⟩
  · go_wp2_with fail
    refine (nextC_any 3 _ b _ HS.out (by omega) (by omega) (by omega)).mono ?_
    rintro e w2 ⟨s, rfl, s0, s1, hS2, hB2⟩
    have HS2 := hide hS2
    have HB2 := hide hB2
    clear hS2 hB2
    go_wp2
    go_ret
    exact ⟨2130706432 - s, rfl, by omega, by omega, HS2.out.mono (by omega), HB.out.trans HB2.out⟩
  · go_wp2
    go_loopw [3, 4] (fun v i W => ∃ (k : Nat) (x : Int), k ≤ 5 ∧ i = .int .i64 k ∧ v = .int .i64 x ∧ 0 ≤ x ∧ x ≤ 2130706432 ∧ Hid (Src (n + 3 + 3 * k) W b) ∧ Hid (Chg (fun k => k = b) w W)) (fun _ i _ => 5 - (intOf i).toNat)
    case atStart => exact ⟨0, 0, by omega, rfl, rfl, by omega, by omega, HS, HB⟩
    case round =>
      obtain ⟨k, x, hk, rfl, rfl, x0, x1, GS, GB⟩ := hrel
      by_cases hlt : k < 5
      · go_wp2_with fail
        refine (nextC_any 256 _ b _ GS.out (by omega) (by omega) (by omega)).mono ?_
        rintro e w2 ⟨s, rfl, s0, s1, hS2, hB2⟩
        have HS2 := hide hS2
        have HB2 := hide hB2
        clear hS2 hB2
        go_wp2
        go_roundw
        case rel => exact ⟨k + 1, _, by omega, by go_num, rfl, by omega, by omega, hide (HS2.out.mono (by omega)), hide (GB.out.trans HB2.out)⟩
        case measure => simp [intOf]; omega
      · go_wp2
        go_ret
        exact ⟨x, rfl, x0, x1, GS.out.mono (by omega), GB.out⟩

/-- A drawn bool. -/
def DrawnB (n b : Nat) (w : World) (e : Ending) (w' : World) : Prop := ∃ r : Bool, e = .returned (.bool r) ∧ Src n w' b ∧ Chg (fun k => k = b) w w'

set_option maxHeartbeats 1000000 in
theorem chance_any (N : Int) (n b : Nat) (w : World) (h : Hid (Src n w b)) (hn : n ≤ 999999999000) (N1 : 1 < N) (N2 : N ≤ 1000000000) :
    Calls Tryz.prog 86 #[.pointer (some ⟨b, 0, none⟩), .int .i64 N] w fun e w' => DrawnB (n + 3) b w e w' := by
  go_enter Tryz.func86, Tryz.ntmps86
  go_wp2_with fail
  refine (nextC_any N n b _ h.out (by omega) N1 N2).mono ?_
  rintro e w' ⟨r, rfl, r0, r1, hS, hB⟩
  have HS := hide hS
  clear hS
  go_wp2
  go_ret
  exact ⟨_, rfl, HS.out, hB⟩

/-- A drawn element. -/
def DrawnE (n b : Nat) (w : World) (e : Ending) (w' : World) : Prop :=
  ∃ x y : Int, e = .returned (.agg #[.int .i64 x, .int .i64 y]) ∧ eok x y = true ∧ Src n w' b ∧ Chg (fun k => k = b) w w'
theorem look_src {w w' : World} {b g o : Nat} {v : Value} (h : Chg (fun k => k = b) w w') (hg : g ≠ b) (c : w.cell? ⟨g, o, none⟩ = some v) : w'.cell? ⟨g, o, none⟩ = some v :=
  (h.cell (p := ⟨g, o, none⟩) (World.block_lt_of_cell? w _ c) hg).trans c
theorem frozen_src {w w' : World} {b g o : Nat} (h : Chg (fun k => k = b) w w') (hg : g ≠ b) (l : g < w.heap.size) (c : w.frozen? ⟨g, o, none⟩ = false) : w'.frozen? ⟨g, o, none⟩ = false :=
  (World.frozen?_of_block (a := ⟨g, o, none⟩) (h.block g l hg)).trans c
/-- What the drawing of an element comes to, its place being new. -/
theorem drawnE_of {n b : Nat} {w W : World} {T : TypeId} (hb : b < w.heap.size) (x y : Int) (hS : Src n W b) (hC : Chg (fun k => k = b) (w.alloc (.cells #[.int .i64 0, .int .i64 0] T)) W) (hx : 0 ≤ x) (hx' : x ≤ 2130706432) (hy : 0 ≤ y) (hy' : y ≤ 2130706432) :
    eok x y = true ∧ Src n ((W.setCell ⟨w.heap.size, 0, none⟩ (.int .i64 x)).setCell ⟨w.heap.size, 1, none⟩ (.int .i64 y)) b ∧ Chg (fun k => k = b) w ((W.setCell ⟨w.heap.size, 0, none⟩ (.int .i64 x)).setCell ⟨w.heap.size, 1, none⟩ (.int .i64 y)) :=
  ⟨eok_mk (fok_mk hx (by omega)) (fok_mk hy (by omega)), hS.chg (P := fun k => k = w.heap.size) (chg2_set (Chg.refl (fun k => k = w.heap.size) _) w.heap.size (fun _ => rfl) _ _) (fun i hi => by omega), chg2_set (((Chg.refl _ _).alloc _).trans hC) w.heap.size (fun l => by omega) _ _⟩

set_option maxHeartbeats 2000000 in
theorem ext_any (n b : Nat) (w : World) (h : Src n w b) (hn : n ≤ 999999990000) :
    Calls Tryz.prog 88 #[.pointer (some ⟨b, 0, none⟩)] w fun e w' => DrawnE (n + 39) b w e w' := by
  have hb := h.lt
  have hne : w.heap.size ≠ b := by omega
  have H := hide (h.keep ((Chg.refl nob w).alloc (.cells #[.int .i64 0, .int .i64 0] 62)))
  clear h
  go_enter Tryz.func88, Tryz.ntmps88
  go_wp2_with fail
  refine (chance_any 4 n b _ H (by omega) (by omega) (by omega)).mono ?_
  rintro e w1 ⟨r, rfl, hS, hB⟩
  have HS := hide hS
  have HB := hide hB
  clear hS H hB
  cases r
  · go_wp2_with fail
    refine (fieldC_any _ b _ HS.out (by omega)).mono ?_
    rintro e w2 ⟨x, rfl, x0, x1, hS2, hB2⟩
    have HS2 := hide hS2
    have HB2 := hide (HB.out.trans hB2)
    clear hS2 hB2
    go_wp2_with fail
    refine (fieldC_any _ b _ HS2.out (by omega)).mono ?_
    rintro e w3 ⟨y, rfl, y0, y1, hS3, hB3⟩
    have HS3 := hide hS3
    have HB3 := hide (HB2.out.trans hB3)
    clear hS3 hB3
    have c0 : w3.cell? ⟨w.heap.size, 0, none⟩ = some (.int .i64 0) := look_src HB3.out hne (by go_simp)
    have c1 : w3.cell? ⟨w.heap.size, 1, none⟩ = some (.int .i64 0) := look_src HB3.out hne (by go_simp)
    have f0 : w3.frozen? ⟨w.heap.size, 0, none⟩ = false := frozen_src HB3.out hne (by simp) (by go_simp)
    have f1 : w3.frozen? ⟨w.heap.size, 1, none⟩ = false := frozen_src HB3.out hne (by simp) (by go_simp)
    go_wp2
    obtain ⟨q1, q2, q3⟩ := drawnE_of hb x y HS3.out HB3.out x0 x1 y0 y1
    exact bodyPost_ret (v := .agg #[.int .i64 x, .int .i64 y]) (by simp [results, Tryz.results88, go_sem, *]) rfl ⟨x, y, rfl, q1, q2.mono (by omega), q3⟩
  · go_wp2_with fail
    refine (fieldC_any _ b _ HS.out (by omega)).mono ?_
    rintro e w2 ⟨x, rfl, x0, x1, hS2, hB2⟩
    have HS2 := hide hS2
    have HB2 := hide (HB.out.trans hB2)
    clear hS2 hB2
    have c0 : w2.cell? ⟨w.heap.size, 0, none⟩ = some (.int .i64 0) := look_src HB2.out hne (by go_simp)
    have c1 : w2.cell? ⟨w.heap.size, 1, none⟩ = some (.int .i64 0) := look_src HB2.out hne (by go_simp)
    have f0 : w2.frozen? ⟨w.heap.size, 0, none⟩ = false := frozen_src HB2.out hne (by simp) (by go_simp)
    have f1 : w2.frozen? ⟨w.heap.size, 1, none⟩ = false := frozen_src HB2.out hne (by simp) (by go_simp)
    go_wp2
    obtain ⟨q1, q2, q3⟩ := drawnE_of hb x 0 HS2.out HB2.out x0 x1 (by omega) (by omega)
    exact bodyPost_ret (v := .agg #[.int .i64 x, .int .i64 0]) (by simp [results, Tryz.results88, go_sem, *]) rfl ⟨x, 0, rfl, q1, q2.mono (by omega), q3⟩

/-- A drawn list, in memory of its own. -/
def DrawnX (n m b : Nat) (w : World) (e : Ending) (w' : World) : Prop :=
  ∃ (f g : Nat → Int) (c0 : Option Addr) (cap0 : Nat), e = .returned (.slice c0 m cap0) ∧ OwnE w' w.heap.size c0 m f g ∧ okP f g m = true ∧ Src n w' b ∧ Chg (fun k => k = b) w w'
/-- A list, one element longer. -/
def ext1 (f : Nat → Int) (k : Nat) (x : Int) (i : Nat) : Int := if i = k then x else f i
theorem ext1_lt (f : Nat → Int) (k : Nat) (x : Int) (i : Nat) (h : i < k) : ext1 f k x i = f i := by unfold ext1; rw [if_neg (by omega)]
theorem ext1_at (f : Nat → Int) (k : Nat) (x : Int) : ext1 f k x k = x := by unfold ext1; rw [if_pos rfl]
theorem okP_ext (f g : Nat → Int) (k : Nat) (x y : Int) (h : okP f g k = true) (hx : eok x y = true) : okP (ext1 f k x) (ext1 g k y) (k + 1) = true :=
  okP_of _ _ _ (fun i hi => by
    by_cases e : i = k
    · subst e; rw [ext1_at, ext1_at]; exact hx
    · rw [ext1_lt f k x i (by omega), ext1_lt g k y i (by omega)]; exact okP_all f g k h i (by omega))
theorem row_ext (f g : Nat → Int) (k : Nat) (x y : Int) : (List.range (k * 2)).map (pf f g) ++ [.int .i64 x, .int .i64 y] = (List.range ((k + 1) * 2)).map (pf (ext1 f k x) (ext1 g k y)) := by
  rw [← range_pair, ext1_at, ext1_at]
  congr 1
  apply List.map_congr_left
  intro i hi
  have hi' : i < k * 2 := by simpa using hi
  unfold pf
  by_cases e : i % 2 = 0
  · rw [if_pos e, if_pos e, ext1_lt f k x (i / 2) (by omega)]
  · rw [if_neg e, if_neg e, ext1_lt g k y (i / 2) (by omega)]
theorem owns_src {w w' : World} {B b : Nat} {t : TypeId} {z : Nat} {v : Value} {n : Nat} {xs : List Value} (h : w.ownsRow B t z v n xs) (hb : b < B) (k : Chg (fun i => i = b) w w') : w'.ownsRow B t z v n xs :=
  h.kept (row := some b) ⟨k.os, k.tape, k.output, k.size, fun i hi hne => k.block i hi (fun e => hne (by rw [e]))⟩ (by
    cases e : v.ownBlock with
    | none => exact Or.inl rfl
    | some g => exact Or.inr (fun h2 => by have := (h.lt g e).1; simp at h2; omega))

set_option maxHeartbeats 2000000 in
theorem exts_any (m n b : Nat) (w : World) (h : Src n w b) (hn : n ≤ 999999980000) (hm : m ≤ 100) :
    Calls Tryz.prog 49 #[.pointer (some ⟨b, 0, none⟩), .int .i64 m] w fun e w' => DrawnX (n + 39 * m) m b w e w' := by
  obtain ⟨i0, hi, hz0, hz1, hz2⟩ := info_parts infoExt
  have HI := hide hi
  have HZ0 := hide hz0
  have HZ1 := hide hz1
  have HZ2 := hide hz2
  have hb := h.lt
  have H := hide (h.keep ((Chg.refl nob w).alloc (.cells #[] 62)))
  clear hi hz0 hz1 hz2 h
  go_enter Tryz.func49, Tryz.ntmps49
  go_wp2
  go_loopw [5, 6] (fun v i W => ∃ (k : Nat) (f g : Nat → Int), k ≤ m ∧ i = .int .i64 k ∧ Hid (W.ownsRow w.heap.size 62 2 v k ((List.range (k * 2)).map (pf f g))) ∧ Hid (okP f g k = true) ∧ Hid (Src (n + 39 * k) W b) ∧ Hid (Chg (fun i => i = b) w W)) (fun _ i _ => m - (intOf i).toNat)
  case atStart => exact ⟨0, fun _ => 0, fun _ => 0, Nat.zero_le _, rfl, hide (owns_none _ _ _ _ (Nat.le_refl _)), hide rfl, H, hide ((Chg.refl _ _).alloc _)⟩
  case round =>
    obtain ⟨k, f, g, hk, rfl, HW, HO, HS, HC⟩ := hrel
    have hsz := HC.out.size
    by_cases hlt : k < m
    · go_wp2_with fail
      refine (ext_any _ b _ HS.out (by omega)).mono ?_
      rintro e w1 ⟨x, y, rfl, hE, hS1, hB1⟩
      have HW1 := hide (owns_src HW.out hb hB1)
      have HO1 := hide (okP_ext f g k x y HO.out hE)
      have HS1 := hide hS1
      have HC1 := hide (HC.out.trans hB1)
      have hs1 := HC1.out.size
      clear hE hS1 hB1
      go_wp2_with (at_builtin; refine wpList_append_own _ rfl (.tmp 13) (.tmp 16) 33 rfl w.heap.size 62 i0 (.agg #[.int .i64 0, .int .i64 0]) 2 16 Tryz.underlying33 HI.out HZ0.out HZ1.out HZ2.out rfl (by decide) _ k _ rfl (HW1.out.alloc _) ⟨_, 0, none⟩ 1 1 [.int .i64 x, .int .i64 y] rfl rfl ?c1 ?c2 ?c3 ?c4 ?c5 ?c6)
      case c1 => exact news2 _ _ _ _
      case c2 => exact one2 _ _
      case c3 => unfold maxLen; omega
      case c4 => omega
      case c5 => simp; omega
      case c6 =>
        intro v' w2 hown hgr _
        have HW2 : Hid (w2.ownsRow w.heap.size 62 2 v' (k + 1) ((List.range ((k + 1) * 2)).map (pf (ext1 f k x) (ext1 g k y)))) := hide (by rw [← row_ext]; exact hown)
        have HC2 := hide ((HC1.out.alloc _).grown hgr (fun i e l => absurd (HW1.out.lt i e).1 (by omega)))
        have HS2 : Hid (Src (n + 39 * k + 39) w2 b) := hide ((HS1.out.keep ((Chg.refl nob w1).alloc (.cells #[.int .i64 x, .int .i64 y] 62))).chg (P := fun i => w.heap.size ≤ i) ((Chg.refl _ _).grown hgr (fun i e _ => (HW1.out.lt i e).1)) (fun i hi => by omega))
        clear hown hgr
        go_wp2
        go_roundw
        case rel => exact ⟨k + 1, _, _, by omega, by go_num, HW2, HO1, hide (HS2.out.mono (by omega)), HC2⟩
        case measure => simp [intOf]; omega
    · obtain rfl : k = m := by omega
      obtain ⟨c1, cap1, rfl, hle, hP⟩ := OwnE.of_owns HW.out
      have HP := hide hP
      clear hP hle
      go_wp2
      go_ret
      exact ⟨f, g, c1, cap1, rfl, HP.out, HO.out, HS.out, HC.out⟩

/-- A drawn list out of a code. -/
def NewXs (m : Nat) (w : World) (e : Ending) (w' : World) : Prop := ∃ (f g : Nat → Int) (c0 : Option Addr) (cap0 : Nat), e = .returned (.slice c0 m cap0) ∧ OwnE w' w.heap.size c0 m f g ∧ okP f g m = true ∧ Chg nob w w'

set_option maxHeartbeats 1000000 in
theorem extsOf_any (c : Option Addr) (len cap m : Nat) (w : World) (h : Bytes w c len) (hl : (len : Int) ≤ 9223372036854775807) (hm : m ≤ 100) :
    Calls Tryz.prog 24 #[.slice c len cap, .int .i64 m] w fun e w' => NewXs m w e w' := by
  have H := hik h
  clear h
  go_enter Tryz.func24, Tryz.ntmps24
  go_wp2_with fail
  refine (l00Source_any c len cap _ H.out hl).mono ?_
  rintro e w1 ⟨rfl, hS, hB⟩
  have HS := hik hS
  have HB := hik (chg_of_below hB)
  clear hS hB
  go_wp2_with fail
  refine (exts_any m 0 w.heap.size _ HS.out (by omega) hm).mono ?_
  rintro e w2 ⟨f, g, c0, cap0, rfl, ho, hok, _, hk⟩
  have HO := hik (ho.low (B' := w.heap.size) HB.out.size)
  have HK := hik hok
  have HC := hik (HB.out.near hk (fun i e => by omega))
  clear ho hok hk
  go_wp2
  go_ret
  exact ⟨f, g, c0, cap0, rfl, HO.out, HK.out, HC.out⟩

end Go.Proofs.YtkpohajmcngjcaaGreatDoor
