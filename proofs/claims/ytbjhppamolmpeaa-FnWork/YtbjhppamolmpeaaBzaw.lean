/- Several texts in one: How often a Verify does the permutation: plain. · The program's WorkOf: contracts. Conditions: a system that can be read, of at most 2 to the 40 entries a matrix. -/
import Derived.Test.YtbjhppamolmpeaaBzai
import Derived.Test.YtbjhppamolmpeaaBzav
import Derived.Test.YtbjhppamolmpeaaBzax
import Derived.Test.YtbjhppamolmpeaaKecC
import Derived.Test.YtbjhppamolmpeaaBzay
import Derived.Deep.RegionHeld3
namespace Go.Proofs.Ytbjhppamolmpeaa
set_option linter.unusedVariables false
/-- Permutations of a text of n bytes. -/
def clW (n : Int) : Int := n / 136 + 1
/-- Entries. -/
def wkE (s : Sy) : Int := ((s.nA + s.nB + s.nC : Nat) : Int)
def wk1 (s : Sy) : Int := clW (21 + 6 * wkE s) + clW (77 + 4 * s.p)
def wk2 (s : Sy) : Int := 2 + 3 * s.r
def wk3 (s : Sy) : Int := 4 + 2 * s.q
/-- A query's. -/
def wkq (v r : Int) (k : Nat) : Int := hpl v r k + (k : Int)
def wk4 (v r q : Int) : Int := 2 * v + (v - 1) + 3 + q + q * wkq v r v.toNat
/-- WorkOf. -/
def wkV (s : Sy) (r q g : Int) : Int := if sysb s && stb r q g then wk1 s + wk2 s + wk3 s + wk4 (s.q - 1) r q else 0
def wkC (s : Sy) (r q g : Int) : Int := if sysb s && stb r q g then 0 else 1
theorem wkq_bd {v r : Int} (hv : 1 ≤ v) (hv2 : v ≤ 4) (hr : 1 ≤ r) (hr2 : r ≤ 3) (k : Nat) (hk : (k : Int) ≤ v) : 0 ≤ wkq v r k ∧ wkq v r k ≤ 40 := by
  have := hpl_bd v r hv (by omega) hr hr2 k hk
  unfold wkq
  omega
theorem wkq_s (v r : Int) (k : Nat) : wkq v r (k + 1) = wkq v r k + (1 + (v + r - 1 - (k : Int))) := by
  unfold wkq
  simp only [hpl]
  omega
theorem wkE_bd {s : Sy} (h : sysb s = true) : 0 ≤ wkE s ∧ wkE s ≤ 600 := by
  obtain ⟨⟨a, b, c⟩, _, _⟩ := sysb_ent h
  unfold wkE
  omega
theorem sdK_n (s : Sy) : ((sdK s 3).size : Int) = 21 + 6 * wkE s := by
  unfold wkE
  simp only [sdK, sdP_size, sd0_size]
  simp only [pk3]
  push_cast
  omega
theorem clW_lo {n : Int} (h : 0 ≤ n) : 1 ≤ clW n := by unfold clW; omega
theorem clW_hi {n : Int} (h : n ≤ 60000) : clW n ≤ 443 := by unfold clW; omega
theorem wrI {n : Int} (h0 : 0 ≤ n) (h1 : n ≤ 1000000000) : Go.IntKind.i64.wrap n = n := by rw [Go.IntKind.wrap_i64]; omega
theorem wrE {E : Int} (h0 : 0 ≤ E) (h1 : E ≤ 600) : Go.IntKind.i64.wrap (21 + Go.IntKind.i64.wrap (6 * E)) = 21 + 6 * E := by rw [wrI (n := 6 * E) (by omega) (by omega), wrI (by omega) (by omega)]
theorem wrP {p : Int} (h0 : 0 ≤ p) (h1 : p < 16) : Go.IntKind.i64.wrap (77 + Go.IntKind.i64.wrap (4 * p)) = 77 + 4 * p := by rw [wrI (n := 4 * p) (by omega) (by omega), wrI (by omega) (by omega)]
theorem clW_s {n : Int} (h0 : 0 ≤ n) (h : n ≤ 135) : clW n = 1 := by unfold clW; omega

end Go.Proofs.Ytbjhppamolmpeaa

namespace Go.Proofs.Ytbjhppamolmpeaa
open Go.ChangeShapes Go.WideShapes Go.ChangeAt Go.RowKit
set_option linter.unusedVariables false
set_option maxRecDepth 100000
set_option linter.unusedSimpArgs false

set_option maxHeartbeats 1000000 in
theorem hashWork_any (n : Int) (w : World) (n0 : 0 ≤ n) (n1 : n ≤ 60000) :
    Calls Try.prog 57 #[.int .i64 n] w fun e w' => e = .returned (.int .i64 (clW n)) ∧ w' = w := by
  have HK := hik (show kcn n = clW n from if_neg (by omega))
  go_enter Try.func57, Try.ntmps57
  go_wp2_with (go_at_call 70; refine (keccakCalls_any _ _).mono ?_; rintro e w' ⟨rfl, rfl⟩)
  go_ret
  exact ⟨ret_int HK.out, rfl⟩
set_option maxHeartbeats 1000000 in
theorem takeWork_any (n : Int) (w : World) (n0 : 0 ≤ n) (n1 : n ≤ 50000) :
    Calls Try.prog 59 #[.int .i64 n] w fun e w' => e = .returned (.int .i64 (clW (42 + n))) ∧ w' = w := by
  go_enter Try.func59, Try.ntmps59
  go_wp2_with (go_at_call 57; refine (hashWork_any _ _ (by omega) (by omega)).mono ?_; rintro e w' ⟨rfl, rfl⟩)
  go_ret
  exact ⟨rfl, rfl⟩
set_option maxHeartbeats 1000000 in
theorem drawWork_any (n : Int) (w : World) (n0 : 0 ≤ n) (n1 : n ≤ 50000) :
    Calls Try.prog 60 #[.int .i64 n] w fun e w' => e = .returned (.int .i64 n) ∧ w' = w := by
  have c40 : clW 40 = 1 := by decide
  go_enter Try.func60, Try.ntmps60
  go_wp2_with (go_at_call 57; refine (hashWork_any _ _ (by omega) (by omega)).mono ?_; rintro e w' ⟨rfl, rfl⟩)
  go_ret
  exact ⟨ret_int (by first | rfl | omega), rfl⟩
set_option maxHeartbeats 1000000 in
theorem roundsWork_any (n k : Int) (w : World) (n0 : 0 ≤ n) (n1 : n ≤ 64) (k0 : 0 ≤ k) (k1 : k ≤ 11) :
    Calls Try.prog 61 #[.int .i64 n, .int .i64 k] w fun e w' => e = .returned (.int .i64 (n * 2)) ∧ w' = w := by
  have hc := clW_s (n := 42 + k * 8) (by omega) (by omega)
  go_enter Try.func61, Try.ntmps61
  go_wp2_with (first | (go_at_call 59; refine (takeWork_any _ _ (by omega) (by omega)).mono ?_; rintro e w' ⟨rfl, rfl⟩) | (go_at_call 60; refine (drawWork_any _ _ (by omega) (by omega)).mono ?_; rintro e w' ⟨rfl, rfl⟩))
  go_ret
  exact ⟨ret_int (by first | rfl | omega), rfl⟩
set_option maxHeartbeats 4000000 in
theorem startWork_any (s : Sy) (y : SyA) (w : World) (hv : Hid (SyV w s y)) (H1 : Hid (sysb s = true)) :
    Calls Try.prog 38 #[.agg #[.int .i64 s.r, .int .i64 s.q, .int .i64 s.p, .slice y.cA s.nA y.pA, .slice y.cB s.nB y.pB, .slice y.cC s.nC y.pC]] w fun e w' => e = .returned (.int .i64 (wk1 s)) ∧ Chg nob w w' := by
  have K0 := hik ((Chg.refl nob w).alloc (.cells #[.int .i64 s.r, .int .i64 s.q, .int .i64 s.p, .slice y.cA s.nA y.pA, .slice y.cB s.nB y.pB, .slice y.cC s.nC y.pC] 46))
  have RS := hik (rowN_new w 6 #[.int .i64 s.r, .int .i64 s.q, .int .i64 s.p, .slice y.cA s.nA y.pA, .slice y.cB s.nB y.pB, .slice y.cC s.nC y.pC] 46 rfl)
  obtain ⟨e0, e1⟩ := wkE_bd H1.out
  obtain ⟨_, ⟨_, _, _, _, p0, p1⟩, _⟩ := sysb_ent H1.out
  have HW := hik (show wk1 s = clW (21 + 6 * wkE s) + clW (77 + 4 * s.p) from rfl)
  have HSN := hik (sdK_n s)
  have b0 := clW_lo (n := 21 + 6 * wkE s) (by omega)
  have b1 := clW_hi (n := 21 + 6 * wkE s) (by omega)
  have b2 := clW_lo (n := 77 + 4 * s.p) (by omega)
  have b3 := clW_hi (n := 77 + 4 * s.p) (by omega)
  have hp4 : IntKind.i64.wrap (35 + IntKind.i64.wrap (s.p * 4)) = 35 + s.p * 4 := by rw [IntKind.wrap_i64, IntKind.wrap_i64]; omega
  go_enter Try.func38, Try.ntmps38
  go_wp2_with fail
  generalize hW : w.alloc (.cells #[.int .i64 s.r, .int .i64 s.q, .int .i64 s.p, .slice y.cA s.nA y.pA, .slice y.cB s.nB y.pB, .slice y.cC s.nC y.pC] 46) = W0 at K0 RS ⊢
  clear hW
  have x0 : W0.cell? ⟨w.heap.size, 0, none⟩ = some (.int .i64 s.r) := RS.out.cell (i := 0) (by omega)
  have x1 : W0.cell? ⟨w.heap.size, 1, none⟩ = some (.int .i64 s.q) := RS.out.cell (i := 1) (by omega)
  have x2 : W0.cell? ⟨w.heap.size, 2, none⟩ = some (.int .i64 s.p) := RS.out.cell (i := 2) (by omega)
  have x3 : W0.cell? ⟨w.heap.size, 3, none⟩ = some (.slice y.cA s.nA y.pA) := RS.out.cell (i := 3) (by omega)
  have x4 : W0.cell? ⟨w.heap.size, 4, none⟩ = some (.slice y.cB s.nB y.pB) := RS.out.cell (i := 4) (by omega)
  have x5 : W0.cell? ⟨w.heap.size, 5, none⟩ = some (.slice y.cC s.nC y.pC) := RS.out.cell (i := 5) (by omega)
  go_region_held3 (fun w' => w'.cell? ⟨w.heap.size, 0, none⟩ = some (.int .i64 s.r) ∧ w'.cell? ⟨w.heap.size, 1, none⟩ = some (.int .i64 s.q) ∧ w'.cell? ⟨w.heap.size, 2, none⟩ = some (.int .i64 s.p) ∧ w'.cell? ⟨w.heap.size, 3, none⟩ = some (.slice y.cA s.nA y.pA) ∧ w'.cell? ⟨w.heap.size, 4, none⟩ = some (.slice y.cB s.nB y.pB) ∧ w'.cell? ⟨w.heap.size, 5, none⟩ = some (.slice y.cC s.nC y.pC)) (first | exact ⟨x0, x1, x2, x3, x4, x5⟩ | exact ⟨k1.see x0, k1.see x1, k1.see x2, k1.see x3, k1.see x4, k1.see x5⟩) (first | (go_at_call 58; refine (digestText_any s y _ (hik (hv.out.keep (K0.out.drew1))) H1).mono ?_; rintro e w1 ⟨B, g, n, cap, rfl, o1, k1, l1⟩; have hn : (n : Int) = 21 + 6 * wkE s := by (rw [← HSN.out, o1.e])) | (go_at_call 57; refine (hashWork_any _ _ (by omega) (by omega)).mono ?_; rintro e w' ⟨rfl, rfl⟩) | (go_at_call 59; (try rw [hp4]); refine (takeWork_any _ _ (by omega) (by omega)).mono ?_; rintro e w' ⟨rfl, rfl⟩))
  go_wp2
  go_ret
  exact ⟨ret_int (by rw [HW.out, show 42 + (35 + s.p * 4) = 77 + 4 * s.p by omega]; first | (rw [hn, IntKind.wrap_i64]; omega) | (rw [IntKind.wrap_i64]; omega)), (K0.out.drew1).trans k1⟩
set_option maxHeartbeats 4000000 in
theorem gatesWork_any (s : Sy) (y : SyA) (w : World) (H1 : Hid (sysb s = true)) :
    Calls Try.prog 39 #[.agg #[.int .i64 s.r, .int .i64 s.q, .int .i64 s.p, .slice y.cA s.nA y.pA, .slice y.cB s.nB y.pB, .slice y.cC s.nC y.pC]] w fun e w' => e = .returned (.int .i64 (wk2 s)) ∧ Chg nob w w' := by
  have K0 := hik ((Chg.refl nob w).alloc (.cells #[.int .i64 s.r, .int .i64 s.q, .int .i64 s.p, .slice y.cA s.nA y.pA, .slice y.cB s.nB y.pB, .slice y.cC s.nC y.pC] 46))
  have RS := hik (rowN_new w 6 #[.int .i64 s.r, .int .i64 s.q, .int .i64 s.p, .slice y.cA s.nA y.pA, .slice y.cB s.nB y.pB, .slice y.cC s.nC y.pC] 46 rfl)
  obtain ⟨_, ⟨r0, r1, q0, q1, p0, p1⟩, _⟩ := sysb_ent H1.out
  have c17 : clW 17 = 1 := by decide
  have c40 : clW 40 = 1 := by decide
  have c41 : clW 41 = 1 := by decide
  have c46 : clW 46 = 1 := by decide
  have c50 : clW 50 = 1 := by decide
  have c65 : clW 65 = 1 := by decide
  have c66 : clW 66 = 1 := by decide
  have c74 : clW 74 = 1 := by decide
  go_enter Try.func39, Try.ntmps39
  go_wp2_with fail
  generalize hW : w.alloc (.cells #[.int .i64 s.r, .int .i64 s.q, .int .i64 s.p, .slice y.cA s.nA y.pA, .slice y.cB s.nB y.pB, .slice y.cC s.nC y.pC] 46) = W0 at K0 RS ⊢
  clear hW
  have x0 : W0.cell? ⟨w.heap.size, 0, none⟩ = some (.int .i64 s.r) := RS.out.cell (i := 0) (by omega)
  have x1 : W0.cell? ⟨w.heap.size, 1, none⟩ = some (.int .i64 s.q) := RS.out.cell (i := 1) (by omega)
  have x2 : W0.cell? ⟨w.heap.size, 2, none⟩ = some (.int .i64 s.p) := RS.out.cell (i := 2) (by omega)
  have x3 : W0.cell? ⟨w.heap.size, 3, none⟩ = some (.slice y.cA s.nA y.pA) := RS.out.cell (i := 3) (by omega)
  have x4 : W0.cell? ⟨w.heap.size, 4, none⟩ = some (.slice y.cB s.nB y.pB) := RS.out.cell (i := 4) (by omega)
  have x5 : W0.cell? ⟨w.heap.size, 5, none⟩ = some (.slice y.cC s.nC y.pC) := RS.out.cell (i := 5) (by omega)
  go_region_held3 (fun w' => w'.cell? ⟨w.heap.size, 0, none⟩ = some (.int .i64 s.r) ∧ w'.cell? ⟨w.heap.size, 1, none⟩ = some (.int .i64 s.q) ∧ w'.cell? ⟨w.heap.size, 2, none⟩ = some (.int .i64 s.p) ∧ w'.cell? ⟨w.heap.size, 3, none⟩ = some (.slice y.cA s.nA y.pA) ∧ w'.cell? ⟨w.heap.size, 4, none⟩ = some (.slice y.cB s.nB y.pB) ∧ w'.cell? ⟨w.heap.size, 5, none⟩ = some (.slice y.cC s.nC y.pC)) (first | exact ⟨x0, x1, x2, x3, x4, x5⟩) (first | (go_at_call 59; refine (takeWork_any _ _ (by omega) (by omega)).mono ?_; rintro e w' ⟨rfl, rfl⟩) | (go_at_call 60; refine (drawWork_any _ _ (by omega) (by omega)).mono ?_; rintro e w' ⟨rfl, rfl⟩) | (go_at_call 61; refine (roundsWork_any _ _ _ (by omega) (by omega) (by omega) (by omega)).mono ?_; rintro e w' ⟨rfl, rfl⟩))
  go_wp2
  go_ret
  exact ⟨ret_int (by unfold wk2; first | omega | (simp only [IntKind.wrap_i64]; omega)), K0.out.drew1⟩
set_option maxHeartbeats 4000000 in
theorem wiresWork_any (s : Sy) (y : SyA) (w : World) (H1 : Hid (sysb s = true)) :
    Calls Try.prog 40 #[.agg #[.int .i64 s.r, .int .i64 s.q, .int .i64 s.p, .slice y.cA s.nA y.pA, .slice y.cB s.nB y.pB, .slice y.cC s.nC y.pC]] w fun e w' => e = .returned (.int .i64 (wk3 s)) ∧ Chg nob w w' := by
  have K0 := hik ((Chg.refl nob w).alloc (.cells #[.int .i64 s.r, .int .i64 s.q, .int .i64 s.p, .slice y.cA s.nA y.pA, .slice y.cB s.nB y.pB, .slice y.cC s.nC y.pC] 46))
  have RS := hik (rowN_new w 6 #[.int .i64 s.r, .int .i64 s.q, .int .i64 s.p, .slice y.cA s.nA y.pA, .slice y.cB s.nB y.pB, .slice y.cC s.nC y.pC] 46 rfl)
  obtain ⟨_, ⟨r0, r1, q0, q1, p0, p1⟩, _⟩ := sysb_ent H1.out
  have c17 : clW 17 = 1 := by decide
  have c40 : clW 40 = 1 := by decide
  have c41 : clW 41 = 1 := by decide
  have c46 : clW 46 = 1 := by decide
  have c50 : clW 50 = 1 := by decide
  have c65 : clW 65 = 1 := by decide
  have c66 : clW 66 = 1 := by decide
  have c74 : clW 74 = 1 := by decide
  go_enter Try.func40, Try.ntmps40
  go_wp2_with fail
  generalize hW : w.alloc (.cells #[.int .i64 s.r, .int .i64 s.q, .int .i64 s.p, .slice y.cA s.nA y.pA, .slice y.cB s.nB y.pB, .slice y.cC s.nC y.pC] 46) = W0 at K0 RS ⊢
  clear hW
  have x0 : W0.cell? ⟨w.heap.size, 0, none⟩ = some (.int .i64 s.r) := RS.out.cell (i := 0) (by omega)
  have x1 : W0.cell? ⟨w.heap.size, 1, none⟩ = some (.int .i64 s.q) := RS.out.cell (i := 1) (by omega)
  have x2 : W0.cell? ⟨w.heap.size, 2, none⟩ = some (.int .i64 s.p) := RS.out.cell (i := 2) (by omega)
  have x3 : W0.cell? ⟨w.heap.size, 3, none⟩ = some (.slice y.cA s.nA y.pA) := RS.out.cell (i := 3) (by omega)
  have x4 : W0.cell? ⟨w.heap.size, 4, none⟩ = some (.slice y.cB s.nB y.pB) := RS.out.cell (i := 4) (by omega)
  have x5 : W0.cell? ⟨w.heap.size, 5, none⟩ = some (.slice y.cC s.nC y.pC) := RS.out.cell (i := 5) (by omega)
  go_region_held3 (fun w' => w'.cell? ⟨w.heap.size, 0, none⟩ = some (.int .i64 s.r) ∧ w'.cell? ⟨w.heap.size, 1, none⟩ = some (.int .i64 s.q) ∧ w'.cell? ⟨w.heap.size, 2, none⟩ = some (.int .i64 s.p) ∧ w'.cell? ⟨w.heap.size, 3, none⟩ = some (.slice y.cA s.nA y.pA) ∧ w'.cell? ⟨w.heap.size, 4, none⟩ = some (.slice y.cB s.nB y.pB) ∧ w'.cell? ⟨w.heap.size, 5, none⟩ = some (.slice y.cC s.nC y.pC)) (first | exact ⟨x0, x1, x2, x3, x4, x5⟩) (first | (go_at_call 59; refine (takeWork_any _ _ (by omega) (by omega)).mono ?_; rintro e w' ⟨rfl, rfl⟩) | (go_at_call 60; refine (drawWork_any _ _ (by omega) (by omega)).mono ?_; rintro e w' ⟨rfl, rfl⟩) | (go_at_call 61; refine (roundsWork_any _ _ _ (by omega) (by omega) (by omega) (by omega)).mono ?_; rintro e w' ⟨rfl, rfl⟩))
  go_wp2
  go_ret
  exact ⟨ret_int (by unfold wk3; first | omega | (simp only [IntKind.wrap_i64]; omega)), K0.out.drew1⟩
set_option maxHeartbeats 4000000 in
theorem queryWork_any (r q g v : Int) (w : World) (r0 : 1 ≤ r) (r1 : r ≤ 3) (v0 : 1 ≤ v) (v1 : v ≤ 4) :
    Calls Try.prog 62 #[.agg #[.int .i64 r, .int .i64 q, .int .i64 g], .int .i64 v] w fun e w' => e = .returned (.int .i64 (wkq v r v.toNat)) ∧ Chg nob w w' := by
  have K0 := hik ((Chg.refl nob w).alloc (.cells #[.int .i64 r, .int .i64 q, .int .i64 g] 26))
  have RT := hik (rowN_new w 3 #[.int .i64 r, .int .i64 q, .int .i64 g] 26 rfl)
  have c17 : clW 17 = 1 := by decide
  have c65 : clW 65 = 1 := by decide
  go_enter Try.func62, Try.ntmps62
  go_wp2_with fail
  generalize hW : w.alloc (.cells #[.int .i64 r, .int .i64 q, .int .i64 g] 26) = W0 at K0 RT ⊢
  clear hW
  go_loopw [5, 8] (fun s i W => ∃ k : Nat, (k : Int) ≤ v ∧ i = .int .i64 (k : Int) ∧ s = .int .i64 (wkq v r k) ∧ Hid (Chg nob W0 W)) (fun _ i _ => v.toNat - (intOf i).toNat)
  case atStart => exact ⟨0, by omega, rfl, rfl, hik (Chg.refl _ _)⟩
  case round =>
    obtain ⟨k, hk, rfl, rfl, HG⟩ := hrel
    rename World => wi
    have RI := hik (rowIs_keep RT.out HG.out)
    have z0 : wi.cell? ⟨w.heap.size, 0, none⟩ = some (.int .i64 r) := RI.out.cell (i := 0) (by omega)
    have z1 : wi.cell? ⟨w.heap.size, 1, none⟩ = some (.int .i64 q) := RI.out.cell (i := 1) (by omega)
    have z2 : wi.cell? ⟨w.heap.size, 2, none⟩ = some (.int .i64 g) := RI.out.cell (i := 2) (by omega)
    obtain ⟨b0, b1⟩ := wkq_bd v0 v1 r0 r1 k hk
    by_cases hlt : (k : Int) < v
    · have HS := hik (wkq_s v r k)
      generalize wkq v r k = X at b0 b1 HS ⊢
      go_wp2_with fail
      go_region_held3 (fun w' => w'.cell? ⟨w.heap.size, 0, none⟩ = some (.int .i64 r) ∧ w'.cell? ⟨w.heap.size, 1, none⟩ = some (.int .i64 q) ∧ w'.cell? ⟨w.heap.size, 2, none⟩ = some (.int .i64 g)) (first | exact ⟨z0, z1, z2⟩ | exact ⟨k3.see z0, k3.see z1, k3.see z2⟩) (first | (go_at_call 57; refine (hashWork_any _ _ (by omega) (by omega)).mono ?_; rintro e w' ⟨rfl, rfl⟩) | (go_at_call 72; refine (pathLength_any _ _ _ _ _ _ (by omega) (by omega) (by omega) (by omega) (by omega) (by omega)).mono ?_; rintro e w2 ⟨rfl, hw2⟩; have k3 : Chg nob _ w2 := hw2 ▸ (Chg.refl nob _).alloc _; clear hw2))
      go_wp2
      go_roundw
      case rel => exact ⟨k + 1, by omega, by go_num, by rw [HS.out]; first | rfl | (congr 1; simp only [IntKind.wrap_i64]; omega), hik ((HG.out.drew1).trans k3)⟩
      case measure => simp [intOf]; omega
    · obtain rfl : k = v.toNat := by omega
      go_wp2
      go_ret
      exact ⟨rfl, K0.out.trans HG.out⟩
set_option maxHeartbeats 4000000 in
theorem openWork_any (r q g v : Int) (w : World) (r0 : 1 ≤ r) (r1 : r ≤ 3) (q0 : 1 ≤ q) (q1 : q ≤ 8) (v0 : 1 ≤ v) (v1 : v ≤ 4) :
    Calls Try.prog 41 #[.agg #[.int .i64 r, .int .i64 q, .int .i64 g], .int .i64 v] w fun e w' => e = .returned (.int .i64 (wk4 v r q)) ∧ Chg nob w w' := by
  have K0 := hik ((Chg.refl nob w).alloc (.cells #[.int .i64 r, .int .i64 q, .int .i64 g] 26))
  have RT := hik (rowN_new w 3 #[.int .i64 r, .int .i64 q, .int .i64 g] 26 rfl)
  obtain ⟨b0, b1⟩ := wkq_bd v0 v1 r0 r1 v.toNat (by omega)
  have HQ := hik (fun (W : World) => queryWork_any r q g v W r0 r1 v0 v1)
  have HV := hik (show wk4 v r q = 2 * v + (v - 1) + 3 + q + q * wkq v r v.toNat from rfl)
  generalize wkq v r v.toNat = X at b0 b1 HQ HV
  have m0 : 0 ≤ q * X := Int.mul_nonneg (by omega) b0
  have m1 : q * X ≤ 320 := Int.le_trans (Int.mul_le_mul q1 b1 b0 (by omega)) (by omega)
  have c17 : clW 17 = 1 := by decide
  have c40 : clW 40 = 1 := by decide
  have c41 : clW 41 = 1 := by decide
  have c46 : clW 46 = 1 := by decide
  have c50 : clW 50 = 1 := by decide
  have c65 : clW 65 = 1 := by decide
  have c66 : clW 66 = 1 := by decide
  have c74 : clW 74 = 1 := by decide
  go_enter Try.func41, Try.ntmps41
  go_upto_region 3 with (first | (go_at_call 61; refine (roundsWork_any _ _ _ (by omega) (by omega) (by omega) (by omega)).mono ?_; rintro e w' ⟨rfl, rfl⟩) | (go_at_call 59; refine (takeWork_any _ _ (by omega) (by omega)).mono ?_; rintro e w' ⟨rfl, rfl⟩) | (go_at_call 57; refine (hashWork_any _ _ (by omega) (by omega)).mono ?_; rintro e w' ⟨rfl, rfl⟩))
  generalize hW : w.alloc (.cells #[.int .i64 r, .int .i64 q, .int .i64 g] 26) = W0 at K0 RT ⊢
  clear hW
  have wi := W0
  have z0 : W0.cell? ⟨w.heap.size, 0, none⟩ = some (.int .i64 r) := RT.out.cell (i := 0) (by omega)
  have z1 : W0.cell? ⟨w.heap.size, 1, none⟩ = some (.int .i64 q) := RT.out.cell (i := 1) (by omega)
  have z2 : W0.cell? ⟨w.heap.size, 2, none⟩ = some (.int .i64 g) := RT.out.cell (i := 2) (by omega)
  go_region_held3 (fun w' => w'.cell? ⟨w.heap.size, 0, none⟩ = some (.int .i64 r) ∧ w'.cell? ⟨w.heap.size, 1, none⟩ = some (.int .i64 q) ∧ w'.cell? ⟨w.heap.size, 2, none⟩ = some (.int .i64 g)) (first | exact ⟨z0, z1, z2⟩ | exact ⟨k3.see z0, k3.see z1, k3.see z2⟩) (first | (go_at_call 60; refine (drawWork_any _ _ (by omega) (by omega)).mono ?_; rintro e w' ⟨rfl, rfl⟩) | (go_at_call 62; refine (HQ.out _).mono ?_; rintro e w2 ⟨rfl, k3⟩))
  go_wp2
  go_ret
  exact ⟨ret_int (by rw [HV.out]; first | omega | (simp only [IntKind.wrap_i64]; omega)), (K0.out.drew1).trans k3⟩

end Go.Proofs.Ytbjhppamolmpeaa
