/- What the drawn source of the specification gives: each draw returns a number in its range and writes into the source alone. Conditions: those of each theorem. -/
import Derived.Test.YtbjhppamolmpeaaWalks
import Derived.Below
import Derived.WalkSmall
import Derived.RegionTactic
import Derived.ChangeAlike
import Derived.BigRegion
import Derived.Deep.QuietTactic
import Derived.BigQuiet
namespace Go.Proofs.Ytbjhppamolmpeaa
open Go.ChangeShapes Go.WideShapes Go.ChangeAt Go.RowKit

/-- Block b holds a source that has drawn at most n bytes; its code lies below it. -/
def Src (n : Nat) (w : World) (b : Nat) : Prop := ∃ (c : Option Addr) (len cap k : Nat) (seed : Int),
  w.cell? ⟨b, 0, none⟩ = some (.slice c len cap) ∧ w.cell? ⟨b, 1, none⟩ = some (.int .i64 k) ∧ w.cell? ⟨b, 2, none⟩ = some (.int .i64 seed) ∧
  w.frozen? ⟨b, 1, none⟩ = false ∧ w.frozen? ⟨b, 2, none⟩ = false ∧ b < w.heap.size ∧ k ≤ n ∧ 0 ≤ seed ∧ seed < 2147483648 ∧ (len : Int) ≤ 9223372036854775807 ∧
  ∀ i, i < len → ∃ (xb xo : Nat) (z : Int), c = some ⟨xb, xo, none⟩ ∧ xb < b ∧ w.cell? ⟨xb, xo + i, none⟩ = some (.int .u8 z) ∧ 0 ≤ z ∧ z ≤ 255
/-- A draw: a number of lo to hi; the source has drawn at most n bytes then; nothing below it has turned. -/
def Drawn (lo hi : Int) (n b : Nat) (w : World) (e : Ending) (w' : World) : Prop :=
  ∃ r : Int, e = .returned (.int .i64 r) ∧ lo ≤ r ∧ r ≤ hi ∧ Src n w' b ∧ Below b w w'

theorem Src.mono {n m : Nat} {w : World} {b : Nat} (h : Src n w b) (k : n ≤ m) : Src m w b := by
  obtain ⟨c, len, cap, j, seed, a0, a1, a2, a3, a4, a5, a6, a7⟩ := h
  exact ⟨c, len, cap, j, seed, a0, a1, a2, a3, a4, a5, by omega, a7⟩
theorem Src.drewN {n : Nat} {w : World} {b : Nat} (h : Src n w b) (m : Nat) : Src n (w.drewN m) b := h

/-- The two stores of a draw. -/
theorem Src.put {n : Nat} {w : World} {b : Nat} (h : Src n w b) (k : Nat) (seed : Int) (hk : k ≤ n + 1) (s0 : 0 ≤ seed) (s1 : seed < 2147483648) :
    Src (n + 1) ((w.setCell ⟨b, 1, none⟩ (.int .i64 k)).setCell ⟨b, 2, none⟩ (.int .i64 seed)) b := by
  obtain ⟨c, len, cap, j, sd, a0, a1, a2, a3, a4, a5, a6, a7, a8, a9, a10⟩ := h
  refine ⟨c, len, cap, k, seed, ?_, ?_, ?_, by simpa using a3, by simpa using a4, by simpa using a5, hk, s0, s1, a9, ?_⟩
  · rw [World.cell?_setCell_other _ _ _ _ (by simp), World.cell?_setCell_other _ _ _ _ (by simp), a0]
  · rw [World.cell?_setCell_other _ _ _ _ (by simp)]
    exact World.cell?_setCell_same _ _ _ a1
  · exact World.cell?_setCell_same _ _ _ (u := .int .i64 sd) (by rw [World.cell?_setCell_other _ _ _ _ (by simp), a2])
  · intro i hi
    obtain ⟨xb, xo, z, e, l, cz, z0, z1⟩ := a10 i hi
    have hn : b ≠ xb := by omega
    exact ⟨xb, xo, z, e, l, by rw [World.cell?_setCell_other _ _ _ _ (fun h => hn (congrArg Addr.block h)), World.cell?_setCell_other _ _ _ _ (fun h => hn (congrArg Addr.block h)), cz], z0, z1⟩
theorem Src.put1 {n : Nat} {w : World} {b : Nat} (h : Src n w b) (k : Nat) (hk : k ≤ n + 1) :
    Src (n + 1) (w.setCell ⟨b, 1, none⟩ (.int .i64 k)) b := by
  obtain ⟨c, len, cap, j, sd, a0, a1, a2, a3, a4, a5, a6, a7, a8, a9, a10⟩ := h
  refine ⟨c, len, cap, k, sd, ?_, ?_, ?_, by simpa using a3, by simpa using a4, by simpa using a5, hk, a7, a8, a9, ?_⟩
  · rw [World.cell?_setCell_other _ _ _ _ (by simp), a0]
  · exact World.cell?_setCell_same _ _ _ a1
  · rw [World.cell?_setCell_other _ _ _ _ (by simp), a2]
  · intro i hi
    obtain ⟨xb, xo, z, e, l, cz, z0, z1⟩ := a10 i hi
    have hn : b ≠ xb := by omega
    exact ⟨xb, xo, z, e, l, by rw [World.cell?_setCell_other _ _ _ _ (fun h => hn (congrArg Addr.block h)), cz], z0, z1⟩
theorem setCell_drewN (w : World) (a : Addr) (v : Value) (m : Nat) : (w.drewN m).setCell a v = (w.setCell a v).drewN m := rfl
theorem below_put (w : World) (b : Nat) (x y : Value) (n : Nat) : Below b w (((w.setCell ⟨b, 1, none⟩ x).setCell ⟨b, 2, none⟩ y).drewN n) :=
  below_drewN (((Below.refl b w).setCell (Nat.le_refl b) x).setCell (Nat.le_refl b) y) n
theorem below_put1 (w : World) (b : Nat) (x : Value) (n : Nat) : Below b w ((w.setCell ⟨b, 1, none⟩ x).drewN n) :=
  below_drewN ((Below.refl b w).setCell (Nat.le_refl b) x) n

set_option maxHeartbeats 1000000 in
theorem byte_in (b xb xo k len cap : Nat) (seed z : Int) (w : World) (hne : xb < b)
    (c0 : w.cell? ⟨b, 0, none⟩ = some (.slice (some ⟨xb, xo, none⟩) len cap))
    (c1 : w.cell? ⟨b, 1, none⟩ = some (.int .i64 k)) (c2 : w.cell? ⟨b, 2, none⟩ = some (.int .i64 seed))
    (f1 : w.frozen? ⟨b, 1, none⟩ = false) (f2 : w.frozen? ⟨b, 2, none⟩ = false)
    (cz : w.cell? ⟨xb, xo + k, none⟩ = some (.int .u8 z)) (hk : k < len) (hl : (len : Int) ≤ 9223372036854775807)
    (s0 : 0 ≤ seed) (s1 : seed < 2147483648) (z0 : 0 ≤ z) (z1 : z ≤ 255) :
    Calls Try.prog 73 #[.pointer (some ⟨b, 0, none⟩)] w fun e w' => e = .returned (.int .i64 z) ∧ ∃ n, w' = (((w.setCell ⟨b, 1, none⟩ (.int .i64 ((k : Int) + 1))).setCell ⟨b, 2, none⟩ (.int .i64 ((seed * 31 + z + 7) % 2147483648))).drewN n) := by
  have hki : (k : Int) + 1 ≤ (len : Int) := by omega
  have hne' : ¬ xb = b := by omega
  go_enter Try.func73, Try.ntmps73
  go_wp2
  go_quiet (fail)
  go_wp2
  go_region
  go_wp2
  go_quiet (fail)
  go_wp2
  go_ret
  exact ⟨rfl, _, by rw [setCell_drewN, World.drewN_drewN]⟩

set_option maxRecDepth 100000 in
set_option maxHeartbeats 1000000 in
theorem byte_out (b k len cap : Nat) (c : Option Addr) (seed : Int) (w : World)
    (c0 : w.cell? ⟨b, 0, none⟩ = some (.slice c len cap))
    (c1 : w.cell? ⟨b, 1, none⟩ = some (.int .i64 k)) (c2 : w.cell? ⟨b, 2, none⟩ = some (.int .i64 seed))
    (f1 : w.frozen? ⟨b, 1, none⟩ = false) (f2 : w.frozen? ⟨b, 2, none⟩ = false)
    (hk : len ≤ k) (hk3 : k < 3000) (s0 : 0 ≤ seed) (s1 : seed < 2147483648) :
    Calls Try.prog 73 #[.pointer (some ⟨b, 0, none⟩)] w fun e w' => e = .returned (.int .i64 ((seed * 1103515245 + 12345) % 2147483648 / 65536 % 256)) ∧ ∃ n, w' = (((w.setCell ⟨b, 1, none⟩ (.int .i64 ((k : Int) + 1))).setCell ⟨b, 2, none⟩ (.int .i64 ((seed * 1103515245 + 12345) % 2147483648))).drewN n) := by
  have hki : ¬ (k : Int) + 1 ≤ (len : Int) := by omega
  have hkj : ¬ 3000 < (k : Int) + 1 := by omega
  go_enter Try.func73, Try.ntmps73
  go_wp2
  go_quiet (fail)
  go_wp2
  go_ret
  exact ⟨rfl, _, rfl⟩

set_option maxHeartbeats 1000000 in
theorem byte_end (b k len cap : Nat) (c : Option Addr) (w : World)
    (c0 : w.cell? ⟨b, 0, none⟩ = some (.slice c len cap))
    (c1 : w.cell? ⟨b, 1, none⟩ = some (.int .i64 k)) 
    (f1 : w.frozen? ⟨b, 1, none⟩ = false)
    (hk : len ≤ k) (hk3 : 3000 ≤ k) (hk4 : (k : Int) ≤ 1000000000000) :
    Calls Try.prog 73 #[.pointer (some ⟨b, 0, none⟩)] w fun e w' => e = .returned (.int .i64 0) ∧ ∃ n, w' = ((w.setCell ⟨b, 1, none⟩ (.int .i64 ((k : Int) + 1))).drewN n) := by
  have hki : ¬ (k : Int) + 1 ≤ (len : Int) := by omega
  have hkj : 3000 < (k : Int) + 1 := by omega
  go_enter Try.func73, Try.ntmps73
  go_wp2
  go_quiet (fail)
  go_wp2
  go_ret
  exact ⟨rfl, _, rfl⟩

theorem byte_any (n b : Nat) (w : World) (h : Src n w b) (hn : n ≤ 1000000000000) :
    Calls Try.prog 73 #[.pointer (some ⟨b, 0, none⟩)] w fun e w' => Drawn 0 255 (n + 1) b w e w' := by
  have hs := h
  obtain ⟨c, len, cap, k, seed, a0, a1, a2, a3, a4, a5, a6, a7, a8, a9, a10⟩ := h
  by_cases hk : k < len
  · obtain ⟨xb, xo, z, rfl, l, cz, z0, z1⟩ := a10 k hk
    refine (byte_in b xb xo k len cap seed z w l a0 a1 a2 a3 a4 cz hk a9 a7 a8 z0 z1).mono ?_
    rintro e w' ⟨rfl, m, rfl⟩
    exact ⟨z, rfl, z0, z1, (hs.put (k + 1) ((seed * 31 + z + 7) % 2147483648) (by omega) (by omega) (by omega)).drewN m, below_put _ _ _ _ _⟩
  · by_cases hk3 : k < 3000
    · refine (byte_out b k len cap c seed w a0 a1 a2 a3 a4 (by omega) hk3 a7 a8).mono ?_
      rintro e w' ⟨rfl, m, rfl⟩
      exact ⟨_, rfl, by omega, by omega, (hs.put (k + 1) ((seed * 1103515245 + 12345) % 2147483648) (by omega) (by omega) (by omega)).drewN m, below_put _ _ _ _ _⟩
    · refine (byte_end b k len cap c w a0 a1 a3 (by omega) (by omega) (by omega)).mono ?_
      rintro e w' ⟨rfl, m, rfl⟩
      exact ⟨0, rfl, by omega, by omega, (hs.put1 (k + 1) (by omega)).drewN m, below_put1 _ _ _ _⟩

theorem emod_bd (r N : Int) (h : 1 < N) : 0 ≤ r % N ∧ r % N ≤ N - 1 :=
  ⟨Int.emod_nonneg _ (by omega), by have := Int.emod_lt_of_pos r (show 0 < N by omega); omega⟩

set_option maxHeartbeats 1000000 in
theorem next_small (N : Int) (n b : Nat) (w : World) (h : Hid (Src n w b)) (hn : n ≤ 999999999000) (N1 : 1 < N) (N2 : N ≤ 256) :
    Calls Try.prog 64 #[.pointer (some ⟨b, 0, none⟩), .int .i64 N] w fun e w' => Drawn 0 (N - 1) (n + 3) b w e w' := by
  have N3 : ¬ N ≤ 1 := by omega
  go_enter Try.func64, Try.ntmps64
  go_wp2_with fail
  refine (byte_any n b _ h.out (by omega)).mono ?_
  rintro e w' ⟨r, rfl, r0, r1, hS, hB⟩
  have HS := hide hS
  clear hS
  have hm := emod_bd r N N1
  go_wp2
  go_ret
  exact ⟨_, rfl, hm.1, hm.2, HS.out.mono (by omega), hB⟩

set_option maxHeartbeats 1000000 in
theorem next_great (N : Int) (n b : Nat) (w : World) (h : Hid (Src n w b)) (hn : n ≤ 999999999000) (N1 : 256 < N) (N2 : N ≤ 1000000000) :
    Calls Try.prog 64 #[.pointer (some ⟨b, 0, none⟩), .int .i64 N] w fun e w' => Drawn 0 (N - 1) (n + 3) b w e w' := by
  have N3 : ¬ N ≤ 1 := by omega
  have N4 : ¬ N ≤ 256 := by omega
  go_enter Try.func64, Try.ntmps64
  go_wp2_with fail
  refine (byte_any n b _ h.out (by omega)).mono ?_
  rintro e w1 ⟨r, rfl, r0, r1, hS, hB⟩
  have HS := hide hS
  have HB := hide hB
  clear hS h hB
  go_wp2_with fail
  refine (byte_any _ b _ HS.out (by omega)).mono ?_
  rintro e w2 ⟨s, rfl, s0, s1, hS2, hB2⟩
  have HS2 := hide hS2
  have HB2 := hide hB2
  clear hS2 HS hB2
  go_wp2_with fail
  refine (byte_any _ b _ HS2.out (by omega)).mono ?_
  rintro e w3 ⟨t, rfl, t0, t1, hS3, hB3⟩
  have HS3 := hide hS3
  have HB3 := hide hB3
  clear hS3 HS2 hB3
  have hm := emod_bd (r * 65536 + s * 256 + t) N (by omega)
  go_wp2
  go_ret
  exact ⟨_, rfl, hm.1, hm.2, HS3.out, (HB.out.trans HB2.out).trans HB3.out⟩

theorem next_any (N : Int) (n b : Nat) (w : World) (h : Src n w b) (hn : n ≤ 999999999000) (N1 : 1 < N) (N2 : N ≤ 1000000000) :
    Calls Try.prog 64 #[.pointer (some ⟨b, 0, none⟩), .int .i64 N] w fun e w' => Drawn 0 (N - 1) (n + 3) b w e w' := by
  by_cases hN : N ≤ 256
  · exact next_small N n b w h hn N1 hN
  · exact next_great N n b w h hn (by omega) N2

set_option maxHeartbeats 2000000 in
theorem field_any (n b : Nat) (w : World) (h : Src n w b) (hn : n ≤ 999999998000) :
    Calls Try.prog 75 #[.pointer (some ⟨b, 0, none⟩)] w fun e w' => Drawn 0 2130706432 (n + 18) b w e w' := by
  have H := hide h
  clear h
  go_enter Try.func75, Try.ntmps75
  go_wp2_with fail
  refine (next_any 5 n b _ H.out (by omega) (by omega) (by omega)).mono ?_
  rintro e w1 ⟨r, rfl, r0, r1, hS, hB⟩
  have HS := hide hS
  have HB := hide hB
  clear hS H hB
  have hr : ((r == 0) = true) ∨ ((r == 0) = false ∧ (r == 1) = true) ∨ ((r == 0) = false ∧ (r == 1) = false) := by
    simp only [beq_iff_eq, beq_eq_false_iff_ne]
    omega
  rcases hr with g | ⟨g, g'⟩ | ⟨g, g'⟩
  · go_wp2_with fail
    refine (next_any 4 _ b _ HS.out (by omega) (by omega) (by omega)).mono ?_
    rintro e w2 ⟨s, rfl, s0, s1, hS2, hB2⟩
    have HS2 := hide hS2
    have HB2 := hide hB2
    clear hS2 hB2
    go_wp2
    go_ret
    exact ⟨s, rfl, s0, by omega, HS2.out.mono (by omega), HB.out.trans HB2.out⟩
  · go_wp2_with fail
    refine (next_any 3 _ b _ HS.out (by omega) (by omega) (by omega)).mono ?_
    rintro e w2 ⟨s, rfl, s0, s1, hS2, hB2⟩
    have HS2 := hide hS2
    have HB2 := hide hB2
    clear hS2 hB2
    go_wp2
    go_ret
    exact ⟨2130706432 - s, rfl, by omega, by omega, HS2.out.mono (by omega), HB.out.trans HB2.out⟩
  · go_wp2
    go_loopw [3, 4] (fun v i W => ∃ (k : Nat) (x : Int), k ≤ 5 ∧ i = .int .i64 k ∧ v = .int .i64 x ∧ 0 ≤ x ∧ x ≤ 2130706432 ∧ Hid (Src (n + 3 + 3 * k) W b) ∧ Hid (Below b w W)) (fun _ i _ => 5 - (intOf i).toNat)
    case atStart => exact ⟨0, 0, by omega, rfl, rfl, by omega, by omega, HS, HB⟩
    case round =>
      obtain ⟨k, x, hk, rfl, rfl, x0, x1, GS, GB⟩ := hrel
      by_cases hlt : k < 5
      · go_wp2_with fail
        refine (next_any 256 _ b _ GS.out (by omega) (by omega) (by omega)).mono ?_
        rintro e w2 ⟨s, rfl, s0, s1, hS2, hB2⟩
        have HS2 := hide hS2
        have HB2 := hide hB2
        clear hS2 hB2
        go_wp2
        go_roundw
        case rel => exact ⟨k + 1, _, by omega, by go_num, rfl, by omega, by omega, hide (HS2.out.mono (by omega)), hide (GB.out.trans HB2.out)⟩
        case measure => simp [intOf]; omega
      · go_wp2
        go_ret
        exact ⟨x, rfl, x0, x1, GS.out.mono (by omega), GB.out⟩
end Go.Proofs.Ytbjhppamolmpeaa
