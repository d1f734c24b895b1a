/- The program's WorkOf: a contract. Conditions: a system that can be read, of at most 2 to the 40 entries a matrix. -/
import Derived.Test.YtbjhppamolmpeaaBzaw
import Derived.Test.YtbjhppamolmpeaaBzan
namespace Go.Proofs.Ytbjhppamolmpeaa
open Go.ChangeShapes Go.WideShapes Go.ChangeAt Go.RowKit
set_option linter.unusedVariables false
set_option maxRecDepth 100000
set_option linter.unusedSimpArgs false

set_option maxHeartbeats 8000000 in
theorem workOf_any (s : Sy) (y : SyA) (r q g : Int) (w : World) (hv : Hid (SyV w s y)) (hsy : s.small) :
    Calls Try.prog 21 #[.agg #[.int .i64 s.r, .int .i64 s.q, .int .i64 s.p, .slice y.cA s.nA y.pA, .slice y.cB s.nB y.pB, .slice y.cC s.nC y.pC], .agg #[.int .i64 r, .int .i64 q, .int .i64 g]] w fun e w' => e = .returned (.tuple #[.int .i64 (wkV s r q g), .int .i64 (wkC s r q g)]) ∧ Chg nob w w' := by
  have K0 := hik (((Chg.refl nob w).alloc (.cells #[.int .i64 s.r, .int .i64 s.q, .int .i64 s.p, .slice y.cA s.nA y.pA, .slice y.cB s.nB y.pB, .slice y.cC s.nC y.pC] 46)).alloc (.cells #[.int .i64 r, .int .i64 q, .int .i64 g] 26))
  have RS := hik (rowIs_keep (rowN_new w 6 #[.int .i64 s.r, .int .i64 s.q, .int .i64 s.p, .slice y.cA s.nA y.pA, .slice y.cB s.nB y.pB, .slice y.cC s.nC y.pC] 46 rfl) ((Chg.refl nob _).alloc (.cells #[.int .i64 r, .int .i64 q, .int .i64 g] 26)))
  have RT := hik (rowN_new (w.alloc (.cells #[.int .i64 s.r, .int .i64 s.q, .int .i64 s.p, .slice y.cA s.nA y.pA, .slice y.cB s.nB y.pB, .slice y.cC s.nC y.pC] 46)) 3 #[.int .i64 r, .int .i64 q, .int .i64 g] 26 rfl)
  rw [asz] at RT
  go_enter Try.func21, Try.ntmps21
  go_wp2_with fail
  generalize hW : (w.alloc (.cells #[.int .i64 s.r, .int .i64 s.q, .int .i64 s.p, .slice y.cA s.nA y.pA, .slice y.cB s.nB y.pB, .slice y.cC s.nC y.pC] 46)).alloc (.cells #[.int .i64 r, .int .i64 q, .int .i64 g] 26) = W0 at K0 RS RT ⊢
  clear hW
  refine (sysOK_any s y _ (hik (hv.out.keep K0.out)) hsy).mono ?_
  rintro e W1 ⟨rfl, kk⟩
  replace K0 := hik (K0.out.trans kk)
  replace RS := hik (rowIs_keep RS.out kk)
  replace RT := hik (rowIs_keep RT.out kk)
  clear kk
  cases b0 : sysb s
  · have H1 := hik (show wkV s r q g = 0 by unfold wkV; rw [b0]; rfl)
    have H2 := hik (show wkC s r q g = 1 by unfold wkC; rw [b0]; rfl)
    go_wp2
    go_ret2
    exact ⟨ret_two H1.out.symm H2.out.symm, K0.out⟩
  have z0 : W1.cell? ⟨w.heap.size + 1, 0, none⟩ = some (.int .i64 r) := RT.out.cell (i := 0) (by omega)
  have z1 : W1.cell? ⟨w.heap.size + 1, 1, none⟩ = some (.int .i64 q) := RT.out.cell (i := 1) (by omega)
  have z2 : W1.cell? ⟨w.heap.size + 1, 2, none⟩ = some (.int .i64 g) := RT.out.cell (i := 2) (by omega)
  go_wp2_with fail
  clear z0 z1 z2
  refine (settingOK_any r q g _).mono ?_
  rintro e W2 ⟨rfl, kk⟩
  replace K0 := hik (K0.out.trans kk)
  replace RS := hik (rowIs_keep RS.out kk)
  replace RT := hik (rowIs_keep RT.out kk)
  clear kk
  cases b1 : stb r q g
  · have H1 := hik (show wkV s r q g = 0 by unfold wkV; rw [b0, b1]; rfl)
    have H2 := hik (show wkC s r q g = 1 by unfold wkC; rw [b0, b1]; rfl)
    go_wp2
    go_ret2
    exact ⟨ret_two H1.out.symm H2.out.symm, K0.out⟩
  have H1 := hik (show wkV s r q g = wk1 s + wk2 s + wk3 s + wk4 (s.q - 1) r q by unfold wkV; rw [b0, b1]; rfl)
  have H2 := hik (show wkC s r q g = 0 by unfold wkC; rw [b0, b1]; rfl)
  obtain ⟨⟨r0, r1⟩, ⟨q0, q1⟩, g0, g1⟩ := stb_parts b1
  obtain ⟨⟨nA2, nB2, nC2⟩, ⟨sr0, sr1, sq0, sq1, p0, p1⟩, _⟩ := sysb_ent b0
  have hq1 : IntKind.i64.wrap (s.q - 1) = s.q - 1 := by rw [IntKind.wrap_i64]; omega
  obtain ⟨e0, e1⟩ := wkE_bd b0
  have c1 := clW_lo (n := 21 + 6 * wkE s) (by omega)
  have c2 := clW_hi (n := 21 + 6 * wkE s) (by omega)
  have c3 := clW_lo (n := 77 + 4 * s.p) (by omega)
  have c4 := clW_hi (n := 77 + 4 * s.p) (by omega)
  obtain ⟨d0, d1⟩ := wkq_bd (v := s.q - 1) (r := r) (by omega) (by omega) r0 r1 (s.q - 1).toNat (by omega)
  have m0 : 0 ≤ q * wkq (s.q - 1) r (s.q - 1).toNat := Int.mul_nonneg (by omega) d0
  have m1 : q * wkq (s.q - 1) r (s.q - 1).toNat ≤ 320 := Int.le_trans (Int.mul_le_mul q1 d1 d0 (by omega)) (by omega)
  have B0 := hik b0
  clear b0 b1
  have x0 : W2.cell? ⟨w.heap.size, 0, none⟩ = some (.int .i64 s.r) := RS.out.cell (i := 0) (by omega)
  have x1 : W2.cell? ⟨w.heap.size, 1, none⟩ = some (.int .i64 s.q) := RS.out.cell (i := 1) (by omega)
  have x2 : W2.cell? ⟨w.heap.size, 2, none⟩ = some (.int .i64 s.p) := RS.out.cell (i := 2) (by omega)
  have x3 : W2.cell? ⟨w.heap.size, 3, none⟩ = some (.slice y.cA s.nA y.pA) := RS.out.cell (i := 3) (by omega)
  have x4 : W2.cell? ⟨w.heap.size, 4, none⟩ = some (.slice y.cB s.nB y.pB) := RS.out.cell (i := 4) (by omega)
  have x5 : W2.cell? ⟨w.heap.size, 5, none⟩ = some (.slice y.cC s.nC y.pC) := RS.out.cell (i := 5) (by omega)
  have z0 : W2.cell? ⟨w.heap.size + 1, 0, none⟩ = some (.int .i64 r) := RT.out.cell (i := 0) (by omega)
  have z1 : W2.cell? ⟨w.heap.size + 1, 1, none⟩ = some (.int .i64 q) := RT.out.cell (i := 1) (by omega)
  have z2 : W2.cell? ⟨w.heap.size + 1, 2, none⟩ = some (.int .i64 g) := RT.out.cell (i := 2) (by omega)
  have w1 : 0 ≤ wk1 s ∧ wk1 s ≤ 1000 := by unfold wk1; omega
  have w2 : 0 ≤ wk2 s ∧ wk2 s ≤ 1000 := by unfold wk2; omega
  have w3 : 0 ≤ wk3 s ∧ wk3 s ≤ 1000 := by unfold wk3; omega
  have w4 : 0 ≤ wk4 (s.q - 1) r q ∧ wk4 (s.q - 1) r q ≤ 1000 := by unfold wk4; omega
  obtain ⟨w1a, w1b⟩ := w1
  obtain ⟨w2a, w2b⟩ := w2
  obtain ⟨w3a, w3b⟩ := w3
  obtain ⟨w4a, w4b⟩ := w4
  clear c1 c2 c3 c4 d0 d1 m0 m1
  have HO := hik (fun (W : World) => openWork_any r q g (s.q - 1) W r0 r1 q0 q1 (by omega) (by omega))
  have A1 := hik (fun (W : World) (k : Chg nob W2 W) => startWork_any s y W (hik (hv.out.keep (K0.out.trans k))) B0)
  have A2 := hik (fun (W : World) => gatesWork_any s y W B0)
  have A3 := hik (fun (W : World) => wiresWork_any s y W B0)
  generalize wk1 s = n1 at w1a w1b A1 H1
  generalize wk2 s = n2 at w2a w2b A2 H1
  generalize wk3 s = n3 at w3a w3b A3 H1
  generalize wk4 (s.q - 1) r q = n4 at w4a w4b HO H1
  go_upto_region 3 with fail
  go_region_held3 (fun w' => w'.cell? ⟨w.heap.size, 0, none⟩ = some (.int .i64 s.r) ∧ w'.cell? ⟨w.heap.size, 1, none⟩ = some (.int .i64 s.q) ∧ w'.cell? ⟨w.heap.size, 2, none⟩ = some (.int .i64 s.p) ∧ w'.cell? ⟨w.heap.size, 3, none⟩ = some (.slice y.cA s.nA y.pA) ∧ w'.cell? ⟨w.heap.size, 4, none⟩ = some (.slice y.cB s.nB y.pB) ∧ w'.cell? ⟨w.heap.size, 5, none⟩ = some (.slice y.cC s.nC y.pC) ∧ w'.cell? ⟨w.heap.size + 1, 0, none⟩ = some (.int .i64 r) ∧ w'.cell? ⟨w.heap.size + 1, 1, none⟩ = some (.int .i64 q) ∧ w'.cell? ⟨w.heap.size + 1, 2, none⟩ = some (.int .i64 g)) (first | exact ⟨x0, x1, x2, x3, x4, x5, z0, z1, z2⟩ | exact ⟨k4.see x0, k4.see x1, k4.see x2, k4.see x3, k4.see x4, k4.see x5, k4.see z0, k4.see z1, k4.see z2⟩ | exact ⟨k5.see (k4.see x0), k5.see (k4.see x1), k5.see (k4.see x2), k5.see (k4.see x3), k5.see (k4.see x4), k5.see (k4.see x5), k5.see (k4.see z0), k5.see (k4.see z1), k5.see (k4.see z2)⟩ | exact ⟨k6.see (k5.see (k4.see x0)), k6.see (k5.see (k4.see x1)), k6.see (k5.see (k4.see x2)), k6.see (k5.see (k4.see x3)), k6.see (k5.see (k4.see x4)), k6.see (k5.see (k4.see x5)), k6.see (k5.see (k4.see z0)), k6.see (k5.see (k4.see z1)), k6.see (k5.see (k4.see z2))⟩ | exact ⟨k7.see (k6.see (k5.see (k4.see x0))), k7.see (k6.see (k5.see (k4.see x1))), k7.see (k6.see (k5.see (k4.see x2))), k7.see (k6.see (k5.see (k4.see x3))), k7.see (k6.see (k5.see (k4.see x4))), k7.see (k6.see (k5.see (k4.see x5))), k7.see (k6.see (k5.see (k4.see z0))), k7.see (k6.see (k5.see (k4.see z1))), k7.see (k6.see (k5.see (k4.see z2)))⟩) (first | (go_at_call 38; refine (A1.out _ ((Chg.refl nob _).drew1)).mono ?_; rintro e w4 ⟨rfl, k4⟩) | (go_at_call 39; refine (A2.out _).mono ?_; rintro e w5 ⟨rfl, k5⟩) | (go_at_call 40; refine (A3.out _).mono ?_; rintro e w6 ⟨rfl, k6⟩) | (go_at_call 41; (try rw [hq1]); refine (HO.out _).mono ?_; rintro e w7 ⟨rfl, k7⟩))
  go_wp2
  go_ret2
  exact ⟨ret_two (by rw [H1.out]; first | omega | (simp only [IntKind.wrap_i64]; omega)) H2.out.symm, ((((K0.out.drew1).trans k4).trans k5).trans k6).trans k7⟩

end Go.Proofs.Ytbjhppamolmpeaa
