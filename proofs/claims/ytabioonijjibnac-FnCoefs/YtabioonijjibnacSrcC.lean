/- What the drawn source gives, told once more: each draw writes into the source alone; elements are drawn. Conditions: those of each theorem. -/
import Derived.Test.YtabioonijjibnacSrcOf
import Derived.Test.YtabioonijjibnacLook
import Derived.Test.YtabioonijjibnacExtW
namespace Go.Proofs.Ytabioonijjibnac
open Go.ChangeShapes Go.WideShapes Go.ChangeAt Go.RowKit
set_option linter.unusedVariables false
set_option maxRecDepth 100000
set_option linter.unusedSimpArgs false

/-- A draw: a number of lo to hi; the source has drawn at most n bytes then; nothing but it has turned. -/
def DrawnC (lo hi : Int) (n b : Nat) (w : World) (e : Ending) (w' : World) : Prop :=
  ∃ r : Int, e = .returned (.int .i64 r) ∧ lo ≤ r ∧ r ≤ hi ∧ Src n w' b ∧ Chg (fun k => k = b) w w'
theorem chg_put (w : World) (b : Nat) (x y : Value) (n : Nat) : Chg (fun k => k = b) w (((w.setCell ⟨b, 1, none⟩ x).setCell ⟨b, 2, none⟩ y).drewN n) :=
  (((Chg.refl (fun k => k = b) w).setCell (p := ⟨b, 1, none⟩) (fun _ => rfl) x).setCell (p := ⟨b, 2, none⟩) (fun _ => rfl) y).drewN n
theorem chg_put1 (w : World) (b : Nat) (x : Value) (n : Nat) : Chg (fun k => k = b) w ((w.setCell ⟨b, 1, none⟩ x).drewN n) :=
  ((Chg.refl (fun k => k = b) w).setCell (p := ⟨b, 1, none⟩) (fun _ => rfl) x).drewN n
theorem Src.chg {P : Nat → Prop} {n : Nat} {w w' : World} {b : Nat} (h : Src n w b) (k : Chg P w w') (hp : ∀ i, i ≤ b → ¬ P i) : Src n w' b := by
  obtain ⟨c, len, cap, j, seed, a0, a1, a2, a3, a4, a5, a6, a7, a8, a9, a10⟩ := h
  refine ⟨c, len, cap, j, seed, ?_, ?_, ?_, ?_, ?_, Nat.lt_of_lt_of_le a5 k.size, a6, a7, a8, a9, ?_⟩
  · rw [k.cell (p := ⟨b, 0, none⟩) a5 (hp b (Nat.le_refl _)), a0]
  · rw [k.cell (p := ⟨b, 1, none⟩) a5 (hp b (Nat.le_refl _)), a1]
  · rw [k.cell (p := ⟨b, 2, none⟩) a5 (hp b (Nat.le_refl _)), a2]
  · rw [World.frozen?_of_block (a := ⟨b, 1, none⟩) (k.block b a5 (hp b (Nat.le_refl _))), a3]
  · rw [World.frozen?_of_block (a := ⟨b, 2, none⟩) (k.block b a5 (hp b (Nat.le_refl _))), a4]
  · intro i hi
    obtain ⟨xb, xo, z, e, l, cz, z0, z1⟩ := a10 i hi
    exact ⟨xb, xo, z, e, l, by rw [k.cell (p := ⟨xb, xo + i, none⟩) (Nat.lt_trans l a5) (hp xb (Nat.le_of_lt l)), cz], z0, z1⟩
theorem Src.keep {n : Nat} {w w' : World} {b : Nat} (h : Src n w b) (k : Chg nob w w') : Src n w' b := h.chg k (fun _ _ x => x)
theorem Src.lt {n : Nat} {w : World} {b : Nat} (h : Src n w b) : b < w.heap.size := by
  obtain ⟨c, len, cap, j, seed, a0, a1, a2, a3, a4, a5, _⟩ := h
  exact a5

theorem byteC_any (n b : Nat) (w : World) (h : Src n w b) (hn : n ≤ 1000000000000) :
    Calls Try.prog 65 #[.pointer (some ⟨b, 0, none⟩)] w fun e w' => DrawnC 0 255 (n + 1) b w e w' := by
  have hs := h
  obtain ⟨c, len, cap, k, seed, a0, a1, a2, a3, a4, a5, a6, a7, a8, a9, a10⟩ := h
  by_cases hk : k < len
  · obtain ⟨xb, xo, z, rfl, l, cz, z0, z1⟩ := a10 k hk
    refine (byte_in b xb xo k len cap seed z w l a0 a1 a2 a3 a4 cz hk a9 a7 a8 z0 z1).mono ?_
    rintro e w' ⟨rfl, m, rfl⟩
    exact ⟨z, rfl, z0, z1, (hs.put (k + 1) ((seed * 31 + z + 7) % 2147483648) (by omega) (by omega) (by omega)).drewN m, chg_put _ _ _ _ _⟩
  · by_cases hk3 : k < 3000
    · refine (byte_out b k len cap c seed w a0 a1 a2 a3 a4 (by omega) hk3 a7 a8).mono ?_
      rintro e w' ⟨rfl, m, rfl⟩
      exact ⟨_, rfl, by omega, by omega, (hs.put (k + 1) ((seed * 1103515245 + 12345) % 2147483648) (by omega) (by omega) (by omega)).drewN m, chg_put _ _ _ _ _⟩
    · refine (byte_end b k len cap c w a0 a1 a3 (by omega) (by omega) (by omega)).mono ?_
      rintro e w' ⟨rfl, m, rfl⟩
      exact ⟨0, rfl, by omega, by omega, (hs.put1 (k + 1) (by omega)).drewN m, chg_put1 _ _ _ _⟩

set_option maxHeartbeats 1000000 in
theorem nextC_small (N : Int) (n b : Nat) (w : World) (h : Hid (Src n w b)) (hn : n ≤ 999999999000) (N1 : 1 < N) (N2 : N ≤ 256) :
    Calls Try.prog 63 #[.pointer (some ⟨b, 0, none⟩), .int .i64 N] w fun e w' => DrawnC 0 (N - 1) (n + 3) b w e w' := by
  have N3 : ¬ N ≤ 1 := by omega
  go_enter Try.func63, Try.ntmps63
  go_wp2_with fail
  refine (byteC_any n b _ h.out (by omega)).mono ?_
  rintro e w' ⟨r, rfl, r0, r1, hS, hB⟩
  have HS := hide hS
  clear hS
  have hm := emod_bd r N N1
  go_wp2
  go_ret
  exact ⟨_, rfl, hm.1, hm.2, HS.out.mono (by omega), hB⟩

set_option maxHeartbeats 1000000 in
theorem nextC_great (N : Int) (n b : Nat) (w : World) (h : Hid (Src n w b)) (hn : n ≤ 999999999000) (N1 : 256 < N) (N2 : N ≤ 1000000000) :
    Calls Try.prog 63 #[.pointer (some ⟨b, 0, none⟩), .int .i64 N] w fun e w' => DrawnC 0 (N - 1) (n + 3) b w e w' := by
  have N3 : ¬ N ≤ 1 := by omega
  have N4 : ¬ N ≤ 256 := by omega
  go_enter Try.func63, Try.ntmps63
  go_wp2_with fail
  refine (byteC_any n b _ h.out (by omega)).mono ?_
  rintro e w1 ⟨r, rfl, r0, r1, hS, hB⟩
  have HS := hide hS
  have HB := hide hB
  clear hS h hB
  go_wp2_with fail
  refine (byteC_any _ b _ HS.out (by omega)).mono ?_
  rintro e w2 ⟨s, rfl, s0, s1, hS2, hB2⟩
  have HS2 := hide hS2
  have HB2 := hide hB2
  clear hS2 HS hB2
  go_wp2_with fail
  refine (byteC_any _ b _ HS2.out (by omega)).mono ?_
  rintro e w3 ⟨t, rfl, t0, t1, hS3, hB3⟩
  have HS3 := hide hS3
  have HB3 := hide hB3
  clear hS3 HS2 hB3
  have hm := emod_bd (r * 65536 + s * 256 + t) N (by omega)
  go_wp2
  go_ret
  exact ⟨_, rfl, hm.1, hm.2, HS3.out, (HB.out.trans HB2.out).trans HB3.out⟩

theorem nextC_any (N : Int) (n b : Nat) (w : World) (h : Src n w b) (hn : n ≤ 999999999000) (N1 : 1 < N) (N2 : N ≤ 1000000000) :
    Calls Try.prog 63 #[.pointer (some ⟨b, 0, none⟩), .int .i64 N] w fun e w' => DrawnC 0 (N - 1) (n + 3) b w e w' := by
  by_cases hN : N ≤ 256
  · exact nextC_small N n b w h hn N1 hN
  · exact nextC_great N n b w h hn (by omega) N2

set_option maxHeartbeats 2000000 in
theorem fieldC_any (n b : Nat) (w : World) (h : Src n w b) (hn : n ≤ 999999998000) :
    Calls Try.prog 56 #[.pointer (some ⟨b, 0, none⟩)] w fun e w' => DrawnC 0 2130706432 (n + 18) b w e w' := by
  have H := hide h
  clear h
  go_enter Try.func56, Try.ntmps56
  go_wp2_with fail
  refine (nextC_any 5 n b _ H.out (by omega) (by omega) (by omega)).mono ?_
  rintro e w1 ⟨r, rfl, r0, r1, hS, hB⟩
  have HS := hide hS
  have HB := hide hB
  clear hS H hB
  have hr : ((r == 0) = true) ∨ ((r == 0) = false ∧ (r == 1) = true) ∨ ((r == 0) = false ∧ (r == 1) = false) := by
    simp only [beq_iff_eq, beq_eq_false_iff_ne]
    omega
  rcases hr with g | ⟨g, g'⟩ | ⟨g, g'⟩
  · go_wp2_with fail
    refine (nextC_any 4 _ b _ HS.out (by omega) (by omega) (by omega)).mono ?_
    rintro e w2 ⟨s, rfl, s0, s1, hS2, hB2⟩
    have HS2 := hide hS2
    have HB2 := hide hB2
    clear hS2 hB2
    go_wp2
    go_ret
    exact ⟨s, rfl, s0, by omega, HS2.out.mono (by omega), HB.out.trans HB2.out⟩
  · go_wp2_with fail
    refine (nextC_any 3 _ b _ HS.out (by omega) (by omega) (by omega)).mono ?_
    rintro e w2 ⟨s, rfl, s0, s1, hS2, hB2⟩
    have HS2 := hide hS2
    have HB2 := hide hB2
    clear hS2 hB2
    go_wp2
    go_ret
    exact ⟨2130706432 - s, rfl, by omega, by omega, HS2.out.mono (by omega), HB.out.trans HB2.out⟩
  · go_wp2
    go_loopw [3, 4] (fun v i W => ∃ (k : Nat) (x : Int), k ≤ 5 ∧ i = .int .i64 k ∧ v = .int .i64 x ∧ 0 ≤ x ∧ x ≤ 2130706432 ∧ Hid (Src (n + 3 + 3 * k) W b) ∧ Hid (Chg (fun k => k = b) w W)) (fun _ i _ => 5 - (intOf i).toNat)
    case atStart => exact ⟨0, 0, by omega, rfl, rfl, by omega, by omega, HS, HB⟩
    case round =>
      obtain ⟨k, x, hk, rfl, rfl, x0, x1, GS, GB⟩ := hrel
      by_cases hlt : k < 5
      · go_wp2_with fail
        refine (nextC_any 256 _ b _ GS.out (by omega) (by omega) (by omega)).mono ?_
        rintro e w2 ⟨s, rfl, s0, s1, hS2, hB2⟩
        have HS2 := hide hS2
        have HB2 := hide hB2
        clear hS2 hB2
        go_wp2
        go_roundw
        case rel => exact ⟨k + 1, _, by omega, by go_num, rfl, by omega, by omega, hide (HS2.out.mono (by omega)), hide (GB.out.trans HB2.out)⟩
        case measure => simp [intOf]; omega
      · go_wp2
        go_ret
        exact ⟨x, rfl, x0, x1, GS.out.mono (by omega), GB.out⟩

/-- A drawn bool. -/
def DrawnB (n b : Nat) (w : World) (e : Ending) (w' : World) : Prop := ∃ r : Bool, e = .returned (.bool r) ∧ Src n w' b ∧ Chg (fun k => k = b) w w'

set_option maxHeartbeats 1000000 in
theorem chance_any (N : Int) (n b : Nat) (w : World) (h : Hid (Src n w b)) (hn : n ≤ 999999999000) (N1 : 1 < N) (N2 : N ≤ 1000000000) :
    Calls Try.prog 55 #[.pointer (some ⟨b, 0, none⟩), .int .i64 N] w fun e w' => DrawnB (n + 3) b w e w' := by
  go_enter Try.func55, Try.ntmps55
  go_wp2_with fail
  refine (nextC_any N n b _ h.out (by omega) N1 N2).mono ?_
  rintro e w' ⟨r, rfl, r0, r1, hS, hB⟩
  have HS := hide hS
  clear hS
  go_wp2
  go_ret
  exact ⟨_, rfl, HS.out, hB⟩

/-- A drawn element. -/
def DrawnE (n b : Nat) (w : World) (e : Ending) (w' : World) : Prop :=
  ∃ x y : Int, e = .returned (.agg #[.int .i64 x, .int .i64 y]) ∧ eok x y = true ∧ Src n w' b ∧ Chg (fun k => k = b) w w'
theorem look_src {w w' : World} {b g o : Nat} {v : Value} (h : Chg (fun k => k = b) w w') (hg : g ≠ b) (c : w.cell? ⟨g, o, none⟩ = some v) : w'.cell? ⟨g, o, none⟩ = some v :=
  (h.cell (p := ⟨g, o, none⟩) (World.block_lt_of_cell? w _ c) hg).trans c
theorem frozen_src {w w' : World} {b g o : Nat} (h : Chg (fun k => k = b) w w') (hg : g ≠ b) (l : g < w.heap.size) (c : w.frozen? ⟨g, o, none⟩ = false) : w'.frozen? ⟨g, o, none⟩ = false :=
  (World.frozen?_of_block (a := ⟨g, o, none⟩) (h.block g l hg)).trans c
/-- What the drawing of an element comes to, its place being new. -/
theorem drawnE_of {n b : Nat} {w W : World} {T : TypeId} (hb : b < w.heap.size) (x y : Int) (hS : Src n W b) (hC : Chg (fun k => k = b) (w.alloc (.cells #[.int .i64 0, .int .i64 0] T)) W) (hx : 0 ≤ x) (hx' : x ≤ 2130706432) (hy : 0 ≤ y) (hy' : y ≤ 2130706432) :
    eok x y = true ∧ Src n ((W.setCell ⟨w.heap.size, 0, none⟩ (.int .i64 x)).setCell ⟨w.heap.size, 1, none⟩ (.int .i64 y)) b ∧ Chg (fun k => k = b) w ((W.setCell ⟨w.heap.size, 0, none⟩ (.int .i64 x)).setCell ⟨w.heap.size, 1, none⟩ (.int .i64 y)) :=
  ⟨eok_mk (fok_mk hx (by omega)) (fok_mk hy (by omega)), hS.chg (P := fun k => k = w.heap.size) (chg2_set (Chg.refl (fun k => k = w.heap.size) _) w.heap.size (fun _ => rfl) _ _) (fun i hi => by omega), chg2_set (((Chg.refl _ _).alloc _).trans hC) w.heap.size (fun l => by omega) _ _⟩

set_option maxHeartbeats 2000000 in
theorem ext_any (n b : Nat) (w : World) (h : Src n w b) (hn : n ≤ 999999990000) :
    Calls Try.prog 43 #[.pointer (some ⟨b, 0, none⟩)] w fun e w' => DrawnE (n + 39) b w e w' := by
  have hb := h.lt
  have hne : w.heap.size ≠ b := by omega
  have H := hide (h.keep ((Chg.refl nob w).alloc (.cells #[.int .i64 0, .int .i64 0] 31)))
  clear h
  go_enter Try.func43, Try.ntmps43
  go_wp2_with fail
  refine (chance_any 4 n b _ H (by omega) (by omega) (by omega)).mono ?_
  rintro e w1 ⟨r, rfl, hS, hB⟩
  have HS := hide hS
  have HB := hide hB
  clear hS H hB
  cases r
  · go_wp2_with fail
    refine (fieldC_any _ b _ HS.out (by omega)).mono ?_
    rintro e w2 ⟨x, rfl, x0, x1, hS2, hB2⟩
    have HS2 := hide hS2
    have HB2 := hide (HB.out.trans hB2)
    clear hS2 hB2
    go_wp2_with fail
    refine (fieldC_any _ b _ HS2.out (by omega)).mono ?_
    rintro e w3 ⟨y, rfl, y0, y1, hS3, hB3⟩
    have HS3 := hide hS3
    have HB3 := hide (HB2.out.trans hB3)
    clear hS3 hB3
    have c0 : w3.cell? ⟨w.heap.size, 0, none⟩ = some (.int .i64 0) := look_src HB3.out hne (by go_simp)
    have c1 : w3.cell? ⟨w.heap.size, 1, none⟩ = some (.int .i64 0) := look_src HB3.out hne (by go_simp)
    have f0 : w3.frozen? ⟨w.heap.size, 0, none⟩ = false := frozen_src HB3.out hne (by simp) (by go_simp)
    have f1 : w3.frozen? ⟨w.heap.size, 1, none⟩ = false := frozen_src HB3.out hne (by simp) (by go_simp)
    go_wp2
    obtain ⟨q1, q2, q3⟩ := drawnE_of hb x y HS3.out HB3.out x0 x1 y0 y1
    exact bodyPost_ret (v := .agg #[.int .i64 x, .int .i64 y]) (by simp [results, Try.results43, go_sem, *]) rfl ⟨x, y, rfl, q1, q2.mono (by omega), q3⟩
  · go_wp2_with fail
    refine (fieldC_any _ b _ HS.out (by omega)).mono ?_
    rintro e w2 ⟨x, rfl, x0, x1, hS2, hB2⟩
    have HS2 := hide hS2
    have HB2 := hide (HB.out.trans hB2)
    clear hS2 hB2
    have c0 : w2.cell? ⟨w.heap.size, 0, none⟩ = some (.int .i64 0) := look_src HB2.out hne (by go_simp)
    have c1 : w2.cell? ⟨w.heap.size, 1, none⟩ = some (.int .i64 0) := look_src HB2.out hne (by go_simp)
    have f0 : w2.frozen? ⟨w.heap.size, 0, none⟩ = false := frozen_src HB2.out hne (by simp) (by go_simp)
    have f1 : w2.frozen? ⟨w.heap.size, 1, none⟩ = false := frozen_src HB2.out hne (by simp) (by go_simp)
    go_wp2
    obtain ⟨q1, q2, q3⟩ := drawnE_of hb x 0 HS2.out HB2.out x0 x1 (by omega) (by omega)
    exact bodyPost_ret (v := .agg #[.int .i64 x, .int .i64 0]) (by simp [results, Try.results43, go_sem, *]) rfl ⟨x, 0, rfl, q1, q2.mono (by omega), q3⟩

/-- A drawn element out of a code. -/
def NewE (w : World) (e : Ending) (w' : World) : Prop := ∃ x y : Int, e = .returned (.agg #[.int .i64 x, .int .i64 y]) ∧ eok x y = true ∧ Chg nob w w'

end Go.Proofs.Ytabioonijjibnac
