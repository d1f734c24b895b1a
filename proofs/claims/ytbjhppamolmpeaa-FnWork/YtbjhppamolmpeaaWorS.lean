/- The model's WorkOf: a contract. Conditions: a system that can be read, of at most 2 to the 40 entries a matrix. -/
import Derived.Test.YtbjhppamolmpeaaBzaw
import Derived.Test.YtbjhppamolmpeaaBzaz
import Derived.Test.YtbjhppamolmpeaaBzay
import Derived.Deep.RegionHeld3
import Derived.Deep.DeepCutAuto
namespace Go.Proofs.Ytbjhppamolmpeaa
open Go.ChangeShapes Go.WideShapes Go.ChangeAt Go.RowKit
set_option linter.unusedVariables false
set_option maxRecDepth 100000
set_option linter.unusedSimpArgs false

set_option maxHeartbeats 1000000 in
theorem sCalls_any (n : Int) (w : World) (n0 : 0 ≤ n) (n1 : n ≤ 60000) :
    Calls Try.prog 35 #[.int .i64 n] w fun e w' => e = .returned (.int .i64 (clW n)) ∧ w' = w := by
  go_enter Try.func35, Try.ntmps35
  go_wp2
  go_ret
  exact ⟨ret_int (by unfold clW; first | rfl | omega), rfl⟩
set_option maxHeartbeats 8000000 in
theorem sWorkOf_any (s : Sy) (y : SyA) (r q g : Int) (w : World) (hv : Hid (SyV w s y)) (hsy : s.small) :
    Calls Try.prog 19 #[.agg #[.int .i64 s.r, .int .i64 s.q, .int .i64 s.p, .slice y.cA s.nA y.pA, .slice y.cB s.nB y.pB, .slice y.cC s.nC y.pC], .agg #[.int .i64 r, .int .i64 q, .int .i64 g]] w fun e w' => e = .returned (.tuple #[.int .i64 (wkV s r q g), .int .i64 (wkC s r q g)]) ∧ Chg nob w w' := by
  have K0 := hik (((Chg.refl nob w).alloc (.cells #[.int .i64 s.r, .int .i64 s.q, .int .i64 s.p, .slice y.cA s.nA y.pA, .slice y.cB s.nB y.pB, .slice y.cC s.nC y.pC] 46)).alloc (.cells #[.int .i64 r, .int .i64 q, .int .i64 g] 26))
  have RS := hik (rowIs_keep (rowN_new w 6 #[.int .i64 s.r, .int .i64 s.q, .int .i64 s.p, .slice y.cA s.nA y.pA, .slice y.cB s.nB y.pB, .slice y.cC s.nC y.pC] 46 rfl) ((Chg.refl nob _).alloc (.cells #[.int .i64 r, .int .i64 q, .int .i64 g] 26)))
  have RT := hik (rowN_new (w.alloc (.cells #[.int .i64 s.r, .int .i64 s.q, .int .i64 s.p, .slice y.cA s.nA y.pA, .slice y.cB s.nB y.pB, .slice y.cC s.nC y.pC] 46)) 3 #[.int .i64 r, .int .i64 q, .int .i64 g] 26 rfl)
  rw [asz] at RT
  go_enter Try.func19, Try.ntmps19
  go_wp2_with fail
  generalize hW : (w.alloc (.cells #[.int .i64 s.r, .int .i64 s.q, .int .i64 s.p, .slice y.cA s.nA y.pA, .slice y.cB s.nB y.pB, .slice y.cC s.nC y.pC] 46)).alloc (.cells #[.int .i64 r, .int .i64 q, .int .i64 g] 26) = W0 at K0 RS RT ⊢
  clear hW
  refine (sSysOK_any s y _ (hik (hv.out.keep K0.out)) hsy).mono ?_
  rintro e W1 ⟨rfl, kk⟩
  replace K0 := hik (K0.out.trans kk)
  replace RS := hik (rowIs_keep RS.out kk)
  replace RT := hik (rowIs_keep RT.out kk)
  clear kk
  cases b0 : sysb s
  · have H1 := hik (show wkV s r q g = 0 by unfold wkV; rw [b0]; rfl)
    have H2 := hik (show wkC s r q g = 1 by unfold wkC; rw [b0]; rfl)
    go_wp2
    go_ret2
    exact ⟨ret_two H1.out.symm H2.out.symm, K0.out⟩
  have z0 : W1.cell? ⟨w.heap.size + 1, 0, none⟩ = some (.int .i64 r) := RT.out.cell (i := 0) (by omega)
  have z1 : W1.cell? ⟨w.heap.size + 1, 1, none⟩ = some (.int .i64 q) := RT.out.cell (i := 1) (by omega)
  have z2 : W1.cell? ⟨w.heap.size + 1, 2, none⟩ = some (.int .i64 g) := RT.out.cell (i := 2) (by omega)
  go_wp2_with fail
  clear z0 z1 z2
  refine (sSettingOK_any r q g _).mono ?_
  rintro e W2 ⟨rfl, kk⟩
  replace K0 := hik (K0.out.trans kk)
  replace RS := hik (rowIs_keep RS.out kk)
  replace RT := hik (rowIs_keep RT.out kk)
  clear kk
  cases b1 : stb r q g
  · have H1 := hik (show wkV s r q g = 0 by unfold wkV; rw [b0, b1]; rfl)
    have H2 := hik (show wkC s r q g = 1 by unfold wkC; rw [b0, b1]; rfl)
    go_wp2
    go_ret2
    exact ⟨ret_two H1.out.symm H2.out.symm, K0.out⟩
  have H1 := hik (show wkV s r q g = wk1 s + wk2 s + wk3 s + wk4 (s.q - 1) r q by unfold wkV; rw [b0, b1]; rfl)
  have H2 := hik (show wkC s r q g = 0 by unfold wkC; rw [b0, b1]; rfl)
  obtain ⟨⟨r0, r1⟩, ⟨q0, q1⟩, g0, g1⟩ := stb_parts b1
  obtain ⟨⟨nA2, nB2, nC2⟩, ⟨sr0, sr1, sq0, sq1, p0, p1⟩, _⟩ := sysb_ent b0
  have hq1 : IntKind.i64.wrap (s.q - 1) = s.q - 1 := by rw [IntKind.wrap_i64]; omega
  obtain ⟨e0, e1⟩ := wkE_bd b0
  have c1 := clW_lo (n := 21 + 6 * wkE s) (by omega)
  have c2 := clW_hi (n := 21 + 6 * wkE s) (by omega)
  have c3 := clW_lo (n := 77 + 4 * s.p) (by omega)
  have c4 := clW_hi (n := 77 + 4 * s.p) (by omega)
  obtain ⟨d0, d1⟩ := wkq_bd (v := s.q - 1) (r := r) (by omega) (by omega) r0 r1 (s.q - 1).toNat (by omega)
  have m0 : 0 ≤ q * wkq (s.q - 1) r (s.q - 1).toNat := Int.mul_nonneg (by omega) d0
  have m1 : q * wkq (s.q - 1) r (s.q - 1).toNat ≤ 320 := Int.le_trans (Int.mul_le_mul q1 d1 d0 (by omega)) (by omega)
  have B0 := hik b0
  clear b0 b1
  have x0 : W2.cell? ⟨w.heap.size, 0, none⟩ = some (.int .i64 s.r) := RS.out.cell (i := 0) (by omega)
  have x1 : W2.cell? ⟨w.heap.size, 1, none⟩ = some (.int .i64 s.q) := RS.out.cell (i := 1) (by omega)
  have x2 : W2.cell? ⟨w.heap.size, 2, none⟩ = some (.int .i64 s.p) := RS.out.cell (i := 2) (by omega)
  have x3 : W2.cell? ⟨w.heap.size, 3, none⟩ = some (.slice y.cA s.nA y.pA) := RS.out.cell (i := 3) (by omega)
  have x4 : W2.cell? ⟨w.heap.size, 4, none⟩ = some (.slice y.cB s.nB y.pB) := RS.out.cell (i := 4) (by omega)
  have x5 : W2.cell? ⟨w.heap.size, 5, none⟩ = some (.slice y.cC s.nC y.pC) := RS.out.cell (i := 5) (by omega)
  have z0 : W2.cell? ⟨w.heap.size + 1, 0, none⟩ = some (.int .i64 r) := RT.out.cell (i := 0) (by omega)
  have z1 : W2.cell? ⟨w.heap.size + 1, 1, none⟩ = some (.int .i64 q) := RT.out.cell (i := 1) (by omega)
  have z2 : W2.cell? ⟨w.heap.size + 1, 2, none⟩ = some (.int .i64 g) := RT.out.cell (i := 2) (by omega)
  have c17 : clW 17 = 1 := by decide
  have c40 : clW 40 = 1 := by decide
  have c41 : clW 41 = 1 := by decide
  have c46 : clW 46 = 1 := by decide
  have c50 : clW 50 = 1 := by decide
  have c65 : clW 65 = 1 := by decide
  have c66 : clW 66 = 1 := by decide
  have c74 : clW 74 = 1 := by decide
  go_upto_region 5 with fail
  have hE : (s.nA : Int) + (s.nB : Int) + (s.nC : Int) = wkE s := by unfold wkE; push_cast; omega
  (try rw [hE])
  have h1 := wrE e0 e1
  have h2 := wrP p0 p1
  have HW := hik (show wk1 s = clW (21 + 6 * wkE s) + clW (77 + 4 * s.p) from rfl)
  have HC1 := hik (fun (W : World) => sCalls_any (21 + 6 * wkE s) W (by omega) (by omega))
  have HC2 := hik (fun (W : World) => sCalls_any (77 + 4 * s.p) W (by omega) (by omega))
  obtain ⟨a1, ha1⟩ : ∃ a, a = clW (21 + 6 * wkE s) := ⟨_, rfl⟩
  obtain ⟨a2, ha2⟩ : ∃ a, a = clW (77 + 4 * s.p) := ⟨_, rfl⟩
  rw [← ha1, ← ha2] at HW
  rw [← ha1] at c1 c2 HC1
  rw [← ha2] at c3 c4 HC2
  clear ha1 ha2 hE
  have f1 := wrI (n := a1 + a2) (by omega) (by omega)
  obtain ⟨n5, hn5⟩ : ∃ n, n = a1 + a2 + 1 := ⟨_, rfl⟩
  have f2 : IntKind.i64.wrap (a1 + a2 + 1) = n5 := by rw [hn5]; exact wrI (by omega) (by omega)
  have b5 : 0 ≤ n5 := by omega
  have t5 : n5 ≤ 1000 := by omega
  have f3 := wrI (n := s.r) (by omega) (by omega)
  have f4 : IntKind.i64.wrap 2 = 2 := wrI (by omega) (by omega)
  have f5 := wrI (n := s.r * 2) (by omega) (by omega)
  obtain ⟨n6, hn6⟩ : ∃ n, n = n5 + (s.r + s.r * 2) := ⟨_, rfl⟩
  have f6 := wrI (n := s.r + s.r * 2) (by omega) (by omega)
  have f7 : IntKind.i64.wrap (n5 + (s.r + s.r * 2)) = n6 := by rw [hn6]; exact wrI (by omega) (by omega)
  have b6 : 0 ≤ n6 := by omega
  have t6 : n6 ≤ 1100 := by omega
  have g1' : IntKind.i64.wrap 3 = 3 := wrI (by omega) (by omega)
  have g2' : IntKind.i64.wrap 4 = 4 := wrI (by omega) (by omega)
  have g3 := wrI (n := s.q * 2) (by omega) (by omega)
  have g4 := wrI (n := 4 + s.q * 2) (by omega) (by omega)
  have g5 := wrI (n := 4 + s.q * 2 + 1) (by omega) (by omega)
  obtain ⟨n7, hn7⟩ : ∃ n, n = n6 + (4 + s.q * 2 + 1) := ⟨_, rfl⟩
  have g6 : IntKind.i64.wrap (n6 + (4 + s.q * 2 + 1)) = n7 := by rw [hn7]; exact wrI (by omega) (by omega)
  have b7 : 0 ≤ n7 := by omega
  have t7 : n7 ≤ 1200 := by omega
  obtain ⟨v, hv9⟩ : ∃ v, v = s.q - 1 := ⟨_, rfl⟩
  rw [← hv9] at hq1 d0 d1 m0 m1 H1
  have v0 : 1 ≤ v := by omega
  have v1 : v ≤ 4 := by omega
  obtain ⟨n8, hn8⟩ : ∃ n, n = n7 + (v * 2 + (v - 1) + 1) := ⟨_, rfl⟩
  obtain ⟨n9, hn9⟩ : ∃ n, n = n8 + (2 + q) := ⟨_, rfl⟩
  have b8 : 0 ≤ n8 := by omega
  have t8 : n8 ≤ 1300 := by omega
  have b9 : 0 ≤ n9 := by omega
  have t9 : n9 ≤ 1400 := by omega
  have k1 := wrI (n := q) (by omega) (by omega)
  have k2 := wrI (n := 2 + q) (by omega) (by omega)
  have k3 : IntKind.i64.wrap (n8 + (2 + q)) = n9 := by rw [hn9]; exact wrI (by omega) (by omega)
  have HN := hik (show wk1 s + wk2 s + wk3 s + wk4 v r q = n9 + q * wkq v r v.toNat by rw [HW.out, hn9, hn8, hn7, hn6, hn5]; unfold wk2 wk3 wk4; omega)
  rw [HN.out] at H1
  have HN8 := hik hn8
  have HV := hik hv9
  (try rw [← hv9])
  clear hn5 hn6 hn7 hn8 hn9 HN HW hv9 e0 e1 p0 p1 nA2 nB2 nC2 g0 g1
  go_region_held3 (fun w' => w'.cell? ⟨w.heap.size, 0, none⟩ = some (.int .i64 s.r) ∧ w'.cell? ⟨w.heap.size, 1, none⟩ = some (.int .i64 s.q) ∧ w'.cell? ⟨w.heap.size, 2, none⟩ = some (.int .i64 s.p) ∧ w'.cell? ⟨w.heap.size, 3, none⟩ = some (.slice y.cA s.nA y.pA) ∧ w'.cell? ⟨w.heap.size, 4, none⟩ = some (.slice y.cB s.nB y.pB) ∧ w'.cell? ⟨w.heap.size, 5, none⟩ = some (.slice y.cC s.nC y.pC) ∧ w'.cell? ⟨w.heap.size + 1, 0, none⟩ = some (.int .i64 r) ∧ w'.cell? ⟨w.heap.size + 1, 1, none⟩ = some (.int .i64 q) ∧ w'.cell? ⟨w.heap.size + 1, 2, none⟩ = some (.int .i64 g)) (first | exact ⟨x0, x1, x2, x3, x4, x5, z0, z1, z2⟩) (first | (go_at_call 35; (first | refine (HC1.out _).mono ?_ | refine (HC2.out _).mono ?_ | refine (sCalls_any 74 _ (by omega) (by omega)).mono ?_); rintro e w' ⟨rfl, rfl⟩))
  go_wp2_with fail
  clear h1 h2 c1 c2 c3 c4 f1 f2 HC1 HC2
  go_region_held3 (fun w' => w'.cell? ⟨w.heap.size, 0, none⟩ = some (.int .i64 s.r) ∧ w'.cell? ⟨w.heap.size, 1, none⟩ = some (.int .i64 s.q) ∧ w'.cell? ⟨w.heap.size, 2, none⟩ = some (.int .i64 s.p) ∧ w'.cell? ⟨w.heap.size, 3, none⟩ = some (.slice y.cA s.nA y.pA) ∧ w'.cell? ⟨w.heap.size, 4, none⟩ = some (.slice y.cB s.nB y.pB) ∧ w'.cell? ⟨w.heap.size, 5, none⟩ = some (.slice y.cC s.nC y.pC) ∧ w'.cell? ⟨w.heap.size + 1, 0, none⟩ = some (.int .i64 r) ∧ w'.cell? ⟨w.heap.size + 1, 1, none⟩ = some (.int .i64 q) ∧ w'.cell? ⟨w.heap.size + 1, 2, none⟩ = some (.int .i64 g)) (first | exact ⟨x0, x1, x2, x3, x4, x5, z0, z1, z2⟩) (first | (go_at_call 35; refine (sCalls_any _ _ (by decide) (by decide)).mono ?_; rintro e w' ⟨rfl, rfl⟩))
  go_wp2_with fail
  clear f3 f5 f6 f7 b5 t5
  go_region_held3 (fun w' => w'.cell? ⟨w.heap.size, 0, none⟩ = some (.int .i64 s.r) ∧ w'.cell? ⟨w.heap.size, 1, none⟩ = some (.int .i64 s.q) ∧ w'.cell? ⟨w.heap.size, 2, none⟩ = some (.int .i64 s.p) ∧ w'.cell? ⟨w.heap.size, 3, none⟩ = some (.slice y.cA s.nA y.pA) ∧ w'.cell? ⟨w.heap.size, 4, none⟩ = some (.slice y.cB s.nB y.pB) ∧ w'.cell? ⟨w.heap.size, 5, none⟩ = some (.slice y.cC s.nC y.pC) ∧ w'.cell? ⟨w.heap.size + 1, 0, none⟩ = some (.int .i64 r) ∧ w'.cell? ⟨w.heap.size + 1, 1, none⟩ = some (.int .i64 q) ∧ w'.cell? ⟨w.heap.size + 1, 2, none⟩ = some (.int .i64 g)) (first | exact ⟨x0, x1, x2, x3, x4, x5, z0, z1, z2⟩) (first | (go_at_call 35; refine (sCalls_any _ _ (by decide) (by decide)).mono ?_; rintro e w' ⟨rfl, rfl⟩))
  clear b6 t6 g1' g2' g3 g4 g5 g6
  go_upto_region 9 with (first | (go_at_call 35; refine (sCalls_any _ _ (by decide) (by decide)).mono ?_; rintro e w' ⟨rfl, rfl⟩))
  rw [show n7 + (v * 2 + (v - 1) + 1) = n8 from HN8.out.symm]
  go_region_held3 (fun w' => w'.cell? ⟨w.heap.size, 0, none⟩ = some (.int .i64 s.r) ∧ w'.cell? ⟨w.heap.size, 1, none⟩ = some (.int .i64 s.q) ∧ w'.cell? ⟨w.heap.size, 2, none⟩ = some (.int .i64 s.p) ∧ w'.cell? ⟨w.heap.size, 3, none⟩ = some (.slice y.cA s.nA y.pA) ∧ w'.cell? ⟨w.heap.size, 4, none⟩ = some (.slice y.cB s.nB y.pB) ∧ w'.cell? ⟨w.heap.size, 5, none⟩ = some (.slice y.cC s.nC y.pC) ∧ w'.cell? ⟨w.heap.size + 1, 0, none⟩ = some (.int .i64 r) ∧ w'.cell? ⟨w.heap.size + 1, 1, none⟩ = some (.int .i64 q) ∧ w'.cell? ⟨w.heap.size + 1, 2, none⟩ = some (.int .i64 g)) (first | exact ⟨x0, x1, x2, x3, x4, x5, z0, z1, z2⟩) (first | (go_at_call 35; refine (sCalls_any _ _ (by decide) (by decide)).mono ?_; rintro e w' ⟨rfl, rfl⟩))
  go_wp2_with fail
  clear f4 k1 k2 k3 b8 t8 b7 t7 c40 c41 c46 c50 c66 c74 HN8 HV
  have KD := hik (K0.out.drew1.drew1.drew1.drew1)
  have hz0 := hik (fun (W : World) (k : Chg nob W2.drew.drew.drew.drew W) => (show W.cell? ⟨w.heap.size + 1, 0, none⟩ = some (.int .i64 r) ∧ W.cell? ⟨w.heap.size + 1, 1, none⟩ = some (.int .i64 q) from ⟨k.see (show W2.drew.drew.drew.drew.cell? _ = _ from z0), k.see (show W2.drew.drew.drew.drew.cell? _ = _ from z1)⟩))
  clear x0 x1 x2 x3 x4 x5 z0 z1 z2
  generalize W2.drew.drew.drew.drew = W4 at KD hz0 ⊢
  go_loopw [8, 9] (fun n j W => ∃ k : Nat, (k : Int) ≤ v ∧ j = .int .i64 (k : Int) ∧ n = .int .i64 (n9 + q * wkq v r k) ∧ Hid (Chg nob W4 W)) (fun _ j _ => v.toNat - (intOf j).toNat)
  case atStart => exact ⟨0, by omega, rfl, by rw [show wkq v r 0 = 0 from rfl, Int.mul_zero, Int.add_zero], hik (Chg.refl _ _)⟩
  case round =>
    obtain ⟨k, hk, rfl, rfl, HG⟩ := hrel
    rename World => wi
    obtain ⟨z0, z1⟩ := hz0.out wi HG.out
    obtain ⟨e0, e1⟩ := wkq_bd v0 v1 r0 r1 k hk
    by_cases hlt : (k : Int) < v
    · have HS := hik (wkq_s v r k)
      generalize wkq v r k = X at e0 e1 HS ⊢
      have p1 : 0 ≤ q * X := Int.mul_nonneg (by omega) e0
      have p2 : q * X ≤ 320 := Int.le_trans (Int.mul_le_mul q1 e1 e0 (by omega)) (by omega)
      have h1 := wrI (n := v + r) (by omega) (by omega)
      have h2 := wrI (n := v + r - 1) (by omega) (by omega)
      have h3 := wrI (n := v + r - 1 - (k : Int)) (by omega) (by omega)
      obtain ⟨y9, hy9⟩ : ∃ n, n = 1 + (v + r - 1 - (k : Int)) := ⟨_, rfl⟩
      have h4 : IntKind.i64.wrap (1 + (v + r - 1 - (k : Int))) = y9 := by rw [hy9]; exact wrI (by omega) (by omega)
      have y0 : 0 ≤ y9 := by omega
      have y1 : y9 ≤ 8 := by omega
      have HS2 := hik (show wkq v r (k + 1) = X + y9 by rw [HS.out, hy9])
      clear hy9 HS
      have p3 : 0 ≤ q * y9 := Int.mul_nonneg (by omega) y0
      have p4 : q * y9 ≤ 64 := Int.le_trans (Int.mul_le_mul q1 y1 y0 (by omega)) (by omega)
      have h5 := wrI (n := q * y9) (by omega) (by omega)
      have h6 := wrI (n := n9 + q * X + q * y9) (by omega) (by omega)
      have HM := hik (Int.mul_add q X y9)
      go_wp2_with fail
      go_region_held3 (fun w' => w'.cell? ⟨w.heap.size + 1, 0, none⟩ = some (.int .i64 r) ∧ w'.cell? ⟨w.heap.size + 1, 1, none⟩ = some (.int .i64 q)) (first | exact ⟨z0, z1⟩) (first | (go_at_call 35; refine (sCalls_any _ _ (by decide) (by decide)).mono ?_; rintro e w' ⟨rfl, rfl⟩))
      go_wp2
      go_roundw
      case rel => exact ⟨k + 1, by omega, by go_num, by rw [HS2.out, HM.out, ← Int.add_assoc], hik (HG.out.drew1)⟩
      case measure => simp [intOf]; omega
    · obtain rfl : k = v.toNat := by omega
      go_wp2
      go_ret2
      exact ⟨ret_two H1.out.symm H2.out.symm, KD.out.trans HG.out⟩

end Go.Proofs.Ytbjhppamolmpeaa
