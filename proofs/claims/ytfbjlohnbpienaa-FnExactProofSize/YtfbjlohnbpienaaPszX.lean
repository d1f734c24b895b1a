/- How many bytes a proof has, the program's answer and the model's: contracts. Conditions: a system that can be read, of at most 2 to the 20 entries a matrix. -/
import Derived.Test.YtfbjlohnbpienaaSizW
import Derived.Test.YtfbjlohnbpienaaStepL
import Derived.Test.YtfbjlohnbpienaaSysX
import Derived.Test.YtfbjlohnbpienaaSysS
import Derived.Test.YtfbjlohnbpienaaLawDo
namespace Go.Proofs.Ytfbjlohnbpienaa
open Go.ChangeShapes Go.WideShapes Go.ChangeAt Go.RowKit
set_option linter.unusedVariables false
set_option maxRecDepth 100000
set_option linter.unusedSimpArgs false

/-- ProofSize's answer and code. -/
def psv (s : Sy) (r n g : Int) : Int := if sysb s && stb r n g then 64 + 32 * s.r + 24 * s.q + osn (s.q - 1) r n else 0
def psc (s : Sy) (r n g : Int) : Int := if sysb s && stb r n g then 0 else 1
theorem sysb_b9 {s : Sy} (h : sysb s = true) : 1 ≤ s.r ∧ s.r ≤ 5 ∧ 2 ≤ s.q ∧ s.q ≤ 5 := by
  unfold sysb at h
  simp only [Bool.and_eq_true, decide_eq_true_eq] at h
  omega
theorem osn_bd9 {v r q : Int} (hv : 1 ≤ v) (hv2 : v ≤ 6) (hr : 1 ≤ r) (hr2 : r ≤ 3) (hq : 1 ≤ q) (hq2 : q ≤ 8) : 0 ≤ osn v r q ∧ osn v r q ≤ 30000 := by
  have b := hpl_bd v r hv hv2 hr hr2 v.toNat (by omega)
  have hX0 : 0 ≤ 16 * v + 32 * hpl v r v.toNat := by omega
  have hX1 : 16 * v + 32 * hpl v r v.toNat ≤ 2000 := by omega
  have hq0 : 0 ≤ q * (16 * v + 32 * hpl v r v.toNat) := Int.mul_nonneg (by omega) hX0
  have hq1 : q * (16 * v + 32 * hpl v r v.toNat) ≤ 16000 := Int.le_trans (Int.mul_le_mul hq2 hX1 hX0 (by omega)) (by omega)
  unfold osn
  omega
set_option maxHeartbeats 1000000 in
theorem headSize_any (s : Sy) (y : SyA) (w : World) (hb : Hid (1 ≤ s.r ∧ s.r ≤ 5 ∧ 2 ≤ s.q ∧ s.q ≤ 5)) :
    Calls Try.prog 49 #[.agg #[.int .i64 s.r, .int .i64 s.q, .int .i64 s.p, .slice y.cA s.nA y.pA, .slice y.cB s.nB y.pB, .slice y.cC s.nC y.pC]] w fun e w' => e = .returned (.int .i64 (64 + 32 * s.r + 24 * s.q)) ∧ Chg nob w w' := by
  obtain ⟨h1, h2, h3, h4⟩ := hb.out
  go_enter Try.func49, Try.ntmps49
  go_wp2
  go_ret
  exact ⟨ret_int (by omega), (Chg.refl _ _).alloc _⟩
set_option maxHeartbeats 8000000 in
theorem proofSize_any (s : Sy) (y : SyA) (r n g : Int) (w : World) (hv : Hid (SyV w s y)) (hsy : s.small) :
    Calls Try.prog 18 #[.agg #[.int .i64 s.r, .int .i64 s.q, .int .i64 s.p, .slice y.cA s.nA y.pA, .slice y.cB s.nB y.pB, .slice y.cC s.nC y.pC], .agg #[.int .i64 r, .int .i64 n, .int .i64 g]] w fun e w' => e = .returned (.tuple #[.int .i64 (psv s r n g), .int .i64 (psc s r n g)]) ∧ Chg nob w w' := by
  have K0 := hik (((Chg.refl nob w).alloc (.cells #[.int .i64 s.r, .int .i64 s.q, .int .i64 s.p, .slice y.cA s.nA y.pA, .slice y.cB s.nB y.pB, .slice y.cC s.nC y.pC] 56)).alloc (.cells #[.int .i64 r, .int .i64 n, .int .i64 g] 41))
  have RS := hik (rowIs_keep (rowN_new w 6 #[.int .i64 s.r, .int .i64 s.q, .int .i64 s.p, .slice y.cA s.nA y.pA, .slice y.cB s.nB y.pB, .slice y.cC s.nC y.pC] 56 rfl) ((Chg.refl nob _).alloc (.cells #[.int .i64 r, .int .i64 n, .int .i64 g] 41)))
  have RT := hik (rowN_new (w.alloc (.cells #[.int .i64 s.r, .int .i64 s.q, .int .i64 s.p, .slice y.cA s.nA y.pA, .slice y.cB s.nB y.pB, .slice y.cC s.nC y.pC] 56)) 3 #[.int .i64 r, .int .i64 n, .int .i64 g] 41 rfl)
  rw [asz] at RT
  go_enter Try.func18, Try.ntmps18
  go_wp2_with fail
  generalize hW : (w.alloc (.cells #[.int .i64 s.r, .int .i64 s.q, .int .i64 s.p, .slice y.cA s.nA y.pA, .slice y.cB s.nB y.pB, .slice y.cC s.nC y.pC] 56)).alloc (.cells #[.int .i64 r, .int .i64 n, .int .i64 g] 41) = W0 at K0 RS RT ⊢
  clear hW
  refine (sysOK_any s y _ (hik (hv.out.keep K0.out)) hsy).mono ?_
  rintro e W1 ⟨rfl, kk⟩
  replace K0 := hik (K0.out.trans kk)
  replace RS := hik (rowIs_keep RS.out kk)
  replace RT := hik (rowIs_keep RT.out kk)
  clear kk
  cases b0 : sysb s
  · have H1 := hik (show psv s r n g = 0 by unfold psv; rw [b0]; rfl)
    have H2 := hik (show psc s r n g = 1 by unfold psc; rw [b0]; rfl)
    go_wp2
    go_ret2
    exact ⟨ret_two H1.out.symm H2.out.symm, K0.out⟩
  have SQ := hik (sysb_b9 b0)
  have xRT0 : W1.cell? ⟨w.heap.size + 1, 0, none⟩ = some (.int .i64 r) := RT.out.cell (i := 0) (by omega)
  have xRT1 : W1.cell? ⟨w.heap.size + 1, 1, none⟩ = some (.int .i64 n) := RT.out.cell (i := 1) (by omega)
  have xRT2 : W1.cell? ⟨w.heap.size + 1, 2, none⟩ = some (.int .i64 g) := RT.out.cell (i := 2) (by omega)
  go_wp2_with fail
  clear xRT0 xRT1 xRT2
  refine (settingOK_any r n g _).mono ?_
  rintro e W2 ⟨rfl, kk⟩
  replace K0 := hik (K0.out.trans kk)
  replace RS := hik (rowIs_keep RS.out kk)
  replace RT := hik (rowIs_keep RT.out kk)
  clear kk
  cases b1 : stb r n g
  · have H1 := hik (show psv s r n g = 0 by unfold psv; rw [b0, b1]; rfl)
    have H2 := hik (show psc s r n g = 1 by unfold psc; rw [b0, b1]; rfl)
    go_wp2
    go_ret2
    exact ⟨ret_two H1.out.symm H2.out.symm, K0.out⟩
  have ST := hik (stb_parts b1)
  obtain ⟨q1, q2, q3, q4⟩ := SQ.out
  obtain ⟨⟨r0, r1⟩, ⟨n0, n1⟩, g0, g1⟩ := ST.out
  have HV := hik (show vrB (s.q - 1) = true from decide_eq_true (by omega))
  have OB := hik (osn_bd9 (v := s.q - 1) (r := r) (q := n) (by omega) (by omega) r0 r1 n0 n1)
  have H1 := hik (show psv s r n g = 64 + 32 * s.r + 24 * s.q + osn (s.q - 1) r n by unfold psv; rw [b0, b1]; rfl)
  have H2 := hik (show psc s r n g = 0 by unfold psc; rw [b0, b1]; rfl)
  have xRS1 : W2.cell? ⟨w.heap.size, 1, none⟩ = some (.int .i64 s.q) := RS.out.cell (i := 1) (by omega)
  have xRT0 : W2.cell? ⟨w.heap.size + 1, 0, none⟩ = some (.int .i64 r) := RT.out.cell (i := 0) (by omega)
  have xRT1 : W2.cell? ⟨w.heap.size + 1, 1, none⟩ = some (.int .i64 n) := RT.out.cell (i := 1) (by omega)
  have xRT2 : W2.cell? ⟨w.heap.size + 1, 2, none⟩ = some (.int .i64 g) := RT.out.cell (i := 2) (by omega)
  go_wp2_with fail
  clear xRS1 xRT0 xRT1 xRT2
  refine (openingSize_any (s.q - 1) r n g _).mono ?_
  rintro e W3 ⟨he, kk⟩
  rw [show osv (s.q - 1) r n g = osn (s.q - 1) r n by (unfold osv; rw [b1, HV.out]; rfl), show osc (s.q - 1) r n g = 0 by (unfold osc; rw [b1, HV.out]; rfl)] at he
  subst he
  replace K0 := hik (K0.out.trans kk)
  replace RS := hik (rowIs_keep RS.out kk)
  replace RT := hik (rowIs_keep RT.out kk)
  clear kk
  obtain ⟨o0, o1⟩ := OB.out
  generalize osn (s.q - 1) r n = on at H1 o0 o1 ⊢
  clear OB
  have xRS0 : W3.cell? ⟨w.heap.size, 0, none⟩ = some (.int .i64 s.r) := RS.out.cell (i := 0) (by omega)
  have xRS1 : W3.cell? ⟨w.heap.size, 1, none⟩ = some (.int .i64 s.q) := RS.out.cell (i := 1) (by omega)
  have xRS2 : W3.cell? ⟨w.heap.size, 2, none⟩ = some (.int .i64 s.p) := RS.out.cell (i := 2) (by omega)
  have xRS3 : W3.cell? ⟨w.heap.size, 3, none⟩ = some (.slice y.cA s.nA y.pA) := RS.out.cell (i := 3) (by omega)
  have xRS4 : W3.cell? ⟨w.heap.size, 4, none⟩ = some (.slice y.cB s.nB y.pB) := RS.out.cell (i := 4) (by omega)
  have xRS5 : W3.cell? ⟨w.heap.size, 5, none⟩ = some (.slice y.cC s.nC y.pC) := RS.out.cell (i := 5) (by omega)
  go_wp2_with fail
  clear xRS0 xRS1 xRS2 xRS3 xRS4 xRS5
  refine (headSize_any s y _ SQ).mono ?_
  rintro e W4 ⟨rfl, kk⟩
  replace K0 := hik (K0.out.trans kk)
  replace RS := hik (rowIs_keep RS.out kk)
  replace RT := hik (rowIs_keep RT.out kk)
  clear kk
  go_wp2
  go_ret2
  exact ⟨ret_two (by rw [H1.out]) H2.out.symm, K0.out⟩
set_option maxHeartbeats 1000000 in
theorem sSize14_any (s : Sy) (y : SyA) (r n g : Int) (w : World) (hb : Hid (1 ≤ s.r ∧ s.r ≤ 5 ∧ 2 ≤ s.q ∧ s.q ≤ 5)) (hz : Hid ((1 ≤ r ∧ r ≤ 3) ∧ (1 ≤ n ∧ n ≤ 8) ∧ (0 ≤ g ∧ g ≤ 12))) :
    Calls Try.prog 44 #[.agg #[.int .i64 s.r, .int .i64 s.q, .int .i64 s.p, .slice y.cA s.nA y.pA, .slice y.cB s.nB y.pB, .slice y.cC s.nC y.pC], .agg #[.int .i64 r, .int .i64 n, .int .i64 g]] w fun e w' => e = .returned (.int .i64 (64 + 32 * s.r + 24 * s.q + osn (s.q - 1) r n)) ∧ Chg nob w w' := by
  obtain ⟨h1, h2, h3, h4⟩ := hb.out
  obtain ⟨⟨r0, r1⟩, ⟨n0, n1⟩, g0, g1⟩ := hz.out
  have K0 := hik (((Chg.refl nob w).alloc (.cells #[.int .i64 s.r, .int .i64 s.q, .int .i64 s.p, .slice y.cA s.nA y.pA, .slice y.cB s.nB y.pB, .slice y.cC s.nC y.pC] 56)).alloc (.cells #[.int .i64 r, .int .i64 n, .int .i64 g] 41))
  have OB := osn_bd9 (v := s.q - 1) (r := r) (q := n) (by omega) (by omega) r0 r1 n0 n1
  have HS := hik (fun (w' : World) => sSize_any9 (s.q - 1) r n g w' r0 r1 n0 n1 (by omega) (by omega))
  generalize osn (s.q - 1) r n = on at HS OB ⊢
  have RS := hik (rowIs_keep (rowN_new w 6 #[.int .i64 s.r, .int .i64 s.q, .int .i64 s.p, .slice y.cA s.nA y.pA, .slice y.cB s.nB y.pB, .slice y.cC s.nC y.pC] 56 rfl) ((Chg.refl nob _).alloc (.cells #[.int .i64 r, .int .i64 n, .int .i64 g] 41)))
  have RT := hik (rowN_new (w.alloc (.cells #[.int .i64 s.r, .int .i64 s.q, .int .i64 s.p, .slice y.cA s.nA y.pA, .slice y.cB s.nB y.pB, .slice y.cC s.nC y.pC] 56)) 3 #[.int .i64 r, .int .i64 n, .int .i64 g] 41 rfl)
  rw [asz] at RT
  go_enter Try.func44, Try.ntmps44
  go_upto_region 1 with fail
  generalize hW : (w.alloc (.cells #[.int .i64 s.r, .int .i64 s.q, .int .i64 s.p, .slice y.cA s.nA y.pA, .slice y.cB s.nB y.pB, .slice y.cC s.nC y.pC] 56)).alloc (.cells #[.int .i64 r, .int .i64 n, .int .i64 g] 41) = W0 at K0 RS RT ⊢
  clear hW
  have x0 : W0.cell? ⟨w.heap.size, 0, none⟩ = some (.int .i64 s.r) := RS.out.cell (i := 0) (by omega)
  have x1 : W0.cell? ⟨w.heap.size, 1, none⟩ = some (.int .i64 s.q) := RS.out.cell (i := 1) (by omega)
  have y0 : W0.cell? ⟨w.heap.size + 1, 0, none⟩ = some (.int .i64 r) := RT.out.cell (i := 0) (by omega)
  have y1 : W0.cell? ⟨w.heap.size + 1, 1, none⟩ = some (.int .i64 n) := RT.out.cell (i := 1) (by omega)
  have y2 : W0.cell? ⟨w.heap.size + 1, 2, none⟩ = some (.int .i64 g) := RT.out.cell (i := 2) (by omega)
  have KW := hik ((Chg.refl nob W0).drew1)
  have SA := hik (fun (WW : World) (kW : Chg nob W0 WW) => (show (WW.cell? ⟨w.heap.size, 0, none⟩ = some (.int .i64 s.r) ∧ WW.cell? ⟨w.heap.size, 1, none⟩ = some (.int .i64 s.q) ∧ WW.cell? ⟨w.heap.size + 1, 0, none⟩ = some (.int .i64 r) ∧ WW.cell? ⟨w.heap.size + 1, 1, none⟩ = some (.int .i64 n) ∧ WW.cell? ⟨w.heap.size + 1, 2, none⟩ = some (.int .i64 g)) from ⟨kW.see x0, kW.see x1, kW.see y0, kW.see y1, kW.see y2⟩))
  refine wp_region_held_drew (S := fun w' => w'.cell? ⟨w.heap.size, 0, none⟩ = some (.int .i64 s.r) ∧ w'.cell? ⟨w.heap.size, 1, none⟩ = some (.int .i64 s.q) ∧ w'.cell? ⟨w.heap.size + 1, 0, none⟩ = some (.int .i64 r) ∧ w'.cell? ⟨w.heap.size + 1, 1, none⟩ = some (.int .i64 n) ∧ w'.cell? ⟨w.heap.size + 1, 2, none⟩ = some (.int .i64 g)) (by kernel_rfl) ⟨x0, x1, y0, y1, y2⟩ (fun hHeld => ?_)
  refine wpAnyH_take (i := 0) (v := ?_) rfl (by kernel_rfl) (by kernel_rfl) (by kernel_rfl) (fun _ _ _ h => h) (Or.inl ⟨by rfl, ?_⟩) (by assumption) ?_
  rotate_left 1
  · (intro w' hSw; (try dsimp only at hSw); go_simp; try with_reducible rfl)
  try simp only [Act.put, List.setIfInBounds_toArray, List.set_cons_zero, List.set_cons_succ, List.getElem_toArray, List.getElem_cons_zero, List.getElem_cons_succ]
  refine wpAnyH_take (i := 1) (v := ?_) rfl (by kernel_rfl) (by kernel_rfl) (by kernel_rfl) (fun _ _ _ h => h) (Or.inl ⟨by rfl, ?_⟩) (by assumption) ?_
  rotate_left 1
  · (intro w' hSw; (try dsimp only at hSw); go_simp; try with_reducible rfl)
  try simp only [Act.put, List.setIfInBounds_toArray, List.set_cons_zero, List.set_cons_succ, List.getElem_toArray, List.getElem_cons_zero, List.getElem_cons_succ]
  refine wpAnyH_take (i := 2) (v := .int .i64 (32 * s.r)) rfl (by kernel_rfl) (by kernel_rfl) (by kernel_rfl) (fun _ _ _ h => h) (Or.inl ⟨by rfl, ?_⟩) (by assumption) ?_
  · (intro w' hSw; (try dsimp only at hSw); go_simp; first | done | rfl | (congr 1; first | omega | (rw [IntKind.wrap_i64] <;> omega)))
  try simp only [Act.put, List.setIfInBounds_toArray, List.set_cons_zero, List.set_cons_succ, List.getElem_toArray, List.getElem_cons_zero, List.getElem_cons_succ]
  refine wpAnyH_take (i := 3) (v := .int .i64 (32 + 32 * s.r)) rfl (by kernel_rfl) (by kernel_rfl) (by kernel_rfl) (fun _ _ _ h => h) (Or.inl ⟨by rfl, ?_⟩) (by assumption) ?_
  · (intro w' hSw; (try dsimp only at hSw); go_simp; first | done | rfl | (congr 1; first | omega | (rw [IntKind.wrap_i64] <;> omega)))
  try simp only [Act.put, List.setIfInBounds_toArray, List.set_cons_zero, List.set_cons_succ, List.getElem_toArray, List.getElem_cons_zero, List.getElem_cons_succ]
  refine wpAnyH_take (i := 4) (v := .int .i64 (32 + 32 * s.r + 24)) rfl (by kernel_rfl) (by kernel_rfl) (by kernel_rfl) (fun _ _ _ h => h) (Or.inl ⟨by rfl, ?_⟩) (by assumption) ?_
  · (intro w' hSw; (try dsimp only at hSw); go_simp; first | done | rfl | (congr 1; first | omega | (rw [IntKind.wrap_i64] <;> omega)))
  try simp only [Act.put, List.setIfInBounds_toArray, List.set_cons_zero, List.set_cons_succ, List.getElem_toArray, List.getElem_cons_zero, List.getElem_cons_succ]
  refine wpAnyH_take (i := 5) (v := ?_) rfl (by kernel_rfl) (by kernel_rfl) (by kernel_rfl) (fun _ _ _ h => h) (Or.inl ⟨by rfl, ?_⟩) (by assumption) ?_
  rotate_left 1
  · (intro w' hSw; (try dsimp only at hSw); go_simp; try with_reducible rfl)
  try simp only [Act.put, List.setIfInBounds_toArray, List.set_cons_zero, List.set_cons_succ, List.getElem_toArray, List.getElem_cons_zero, List.getElem_cons_succ]
  refine wpAnyH_take (i := 6) (v := ?_) rfl (by kernel_rfl) (by kernel_rfl) (by kernel_rfl) (fun _ _ _ h => h) (Or.inl ⟨by rfl, ?_⟩) (by assumption) ?_
  rotate_left 1
  · (intro w' hSw; (try dsimp only at hSw); go_simp; try with_reducible rfl)
  try simp only [Act.put, List.setIfInBounds_toArray, List.set_cons_zero, List.set_cons_succ, List.getElem_toArray, List.getElem_cons_zero, List.getElem_cons_succ]
  refine wpAnyH_take (i := 7) (v := .int .i64 (24 * s.q)) rfl (by kernel_rfl) (by kernel_rfl) (by kernel_rfl) (fun _ _ _ h => h) (Or.inl ⟨by rfl, ?_⟩) (by assumption) ?_
  · (intro w' hSw; (try dsimp only at hSw); go_simp; first | done | rfl | (congr 1; first | omega | (rw [IntKind.wrap_i64] <;> omega)))
  try simp only [Act.put, List.setIfInBounds_toArray, List.set_cons_zero, List.set_cons_succ, List.getElem_toArray, List.getElem_cons_zero, List.getElem_cons_succ]
  refine wpAnyH_take (i := 8) (v := .int .i64 (32 + 32 * s.r + 24 + 24 * s.q)) rfl (by kernel_rfl) (by kernel_rfl) (by kernel_rfl) (fun _ _ _ h => h) (Or.inl ⟨by rfl, ?_⟩) (by assumption) ?_
  · (intro w' hSw; (try dsimp only at hSw); go_simp; first | done | rfl | (congr 1; first | omega | (rw [IntKind.wrap_i64] <;> omega)))
  try simp only [Act.put, List.setIfInBounds_toArray, List.set_cons_zero, List.set_cons_succ, List.getElem_toArray, List.getElem_cons_zero, List.getElem_cons_succ]
  refine wpAnyH_take (i := 9) (v := .int .i64 (32 + 32 * s.r + 24 + 24 * s.q + 8)) rfl (by kernel_rfl) (by kernel_rfl) (by kernel_rfl) (fun _ _ _ h => h) (Or.inl ⟨by rfl, ?_⟩) (by assumption) ?_
  · (intro w' hSw; (try dsimp only at hSw); go_simp; first | done | rfl | (congr 1; first | omega | (rw [IntKind.wrap_i64] <;> omega)))
  try simp only [Act.put, List.setIfInBounds_toArray, List.set_cons_zero, List.set_cons_succ, List.getElem_toArray, List.getElem_cons_zero, List.getElem_cons_succ]
  refine wpAnyH_take (i := 10) (v := ?_) rfl (by kernel_rfl) (by kernel_rfl) (by kernel_rfl) (fun _ _ _ h => h) (Or.inl ⟨by rfl, ?_⟩) (by assumption) ?_
  rotate_left 1
  · (intro w' hSw; (try dsimp only at hSw); go_simp; try with_reducible rfl)
  try simp only [Act.put, List.setIfInBounds_toArray, List.set_cons_zero, List.set_cons_succ, List.getElem_toArray, List.getElem_cons_zero, List.getElem_cons_succ]
  refine wpAnyH_take (i := 11) (v := ?_) rfl (by kernel_rfl) (by kernel_rfl) (by kernel_rfl) (fun _ _ _ h => h) (Or.inl ⟨by rfl, ?_⟩) (by assumption) ?_
  rotate_left 1
  · (intro w' hSw; (try dsimp only at hSw); go_simp; try with_reducible rfl)
  try simp only [Act.put, List.setIfInBounds_toArray, List.set_cons_zero, List.set_cons_succ, List.getElem_toArray, List.getElem_cons_zero, List.getElem_cons_succ]
  refine wpAnyH_take (i := 12) (v := .int .i64 (s.q - 1)) rfl (by kernel_rfl) (by kernel_rfl) (by kernel_rfl) (fun _ _ _ h => h) (Or.inl ⟨by rfl, ?_⟩) (by assumption) ?_
  · (intro w' hSw; (try dsimp only at hSw); go_simp; first | done | rfl | (congr 1; first | omega | (rw [IntKind.wrap_i64] <;> omega)))
  try simp only [Act.put, List.setIfInBounds_toArray, List.set_cons_zero, List.set_cons_succ, List.getElem_toArray, List.getElem_cons_zero, List.getElem_cons_succ]
  refine wpAnyH_take (i := 13) (v := ?_) rfl (by kernel_rfl) (by kernel_rfl) (by kernel_rfl) (fun _ _ _ h => h) (Or.inl ⟨by rfl, ?_⟩) (by assumption) ?_
  rotate_left 1
  · (intro w' hSw; (try dsimp only at hSw); go_simp; try with_reducible rfl)
  try simp only [Act.put, List.setIfInBounds_toArray, List.set_cons_zero, List.set_cons_succ, List.getElem_toArray, List.getElem_cons_zero, List.getElem_cons_succ]
  refine wpAnyH_ready (rs := [14]) (by kernel_rfl) (by simp) ?_
  refine AllReadyH.cons rfl (fun K hK => ?_) AllReadyH.nil
  refine stepL_callN 72 #[.tmp 17, .tmp 18] #[3, 41] (by rfl) (by rfl) #[.int .i64 (s.q - 1), .agg #[.int .i64 r, .int .i64 n, .int .i64 g]] (by simp only [List.map_toArray, List.map_cons, List.map_nil] <;> rfl) (run_go Try.func72 (by kernel_rfl) (by kernel_rfl) _ _) (HS.out _) ?_
  rintro e U1 ⟨he, kk⟩
  refine ⟨_, he, ?_⟩
  replace KW := hik (KW.out.trans kk)
  refine hK.out _ _ (SA.out _ KW.out) (fun hHeld => ?_)
  clear hK K
  try simp only [Act.put, List.setIfInBounds_toArray, List.set_cons_zero, List.set_cons_succ, List.getElem_toArray, List.getElem_cons_zero, List.getElem_cons_succ]
  clear he kk
  refine wpAnyH_take (i := 15) (v := .int .i64 (64 + 32 * s.r + 24 * s.q + on)) rfl (by kernel_rfl) (by kernel_rfl) (by kernel_rfl) (fun _ _ _ h => h) (Or.inl ⟨by rfl, ?_⟩) (by assumption) ?_
  · (intro w' hSw; (try dsimp only at hSw); go_simp; first | done | rfl | (congr 1; first | omega | (rw [IntKind.wrap_i64] <;> omega)))
  try simp only [Act.put, List.setIfInBounds_toArray, List.set_cons_zero, List.set_cons_succ, List.getElem_toArray, List.getElem_cons_zero, List.getElem_cons_succ]
  refine wpAnyH_take (i := 16) (v := ?_) rfl (by kernel_rfl) (by kernel_rfl) (by kernel_rfl) (fun _ _ _ h => h) (Or.inl ⟨by rfl, ?_⟩) (by assumption) ?_
  rotate_left 1
  · (intro w' hSw; (try dsimp only at hSw); go_simp; try with_reducible rfl)
  try simp only [Act.put, List.setIfInBounds_toArray, List.set_cons_zero, List.set_cons_succ, List.getElem_toArray, List.getElem_cons_zero, List.getElem_cons_succ]
  refine wpAnyH_done (by kernel_rfl) ?_ _
  replace K0 := hik (K0.out.trans KW.out)
  clear SA hHeld KW x0 x1 y0 y1 y2
  go_wp2
  go_ret
  exact ⟨rfl, K0.out⟩
set_option maxHeartbeats 8000000 in
theorem sProofSize_any (s : Sy) (y : SyA) (r n g : Int) (w : World) (hv : Hid (SyV w s y)) (hsy : s.small) :
    Calls Try.prog 16 #[.agg #[.int .i64 s.r, .int .i64 s.q, .int .i64 s.p, .slice y.cA s.nA y.pA, .slice y.cB s.nB y.pB, .slice y.cC s.nC y.pC], .agg #[.int .i64 r, .int .i64 n, .int .i64 g]] w fun e w' => e = .returned (.tuple #[.int .i64 (psv s r n g), .int .i64 (psc s r n g)]) ∧ Chg nob w w' := by
  have K0 := hik (((Chg.refl nob w).alloc (.cells #[.int .i64 s.r, .int .i64 s.q, .int .i64 s.p, .slice y.cA s.nA y.pA, .slice y.cB s.nB y.pB, .slice y.cC s.nC y.pC] 56)).alloc (.cells #[.int .i64 r, .int .i64 n, .int .i64 g] 41))
  have RS := hik (rowIs_keep (rowN_new w 6 #[.int .i64 s.r, .int .i64 s.q, .int .i64 s.p, .slice y.cA s.nA y.pA, .slice y.cB s.nB y.pB, .slice y.cC s.nC y.pC] 56 rfl) ((Chg.refl nob _).alloc (.cells #[.int .i64 r, .int .i64 n, .int .i64 g] 41)))
  have RT := hik (rowN_new (w.alloc (.cells #[.int .i64 s.r, .int .i64 s.q, .int .i64 s.p, .slice y.cA s.nA y.pA, .slice y.cB s.nB y.pB, .slice y.cC s.nC y.pC] 56)) 3 #[.int .i64 r, .int .i64 n, .int .i64 g] 41 rfl)
  rw [asz] at RT
  go_enter Try.func16, Try.ntmps16
  go_wp2_with fail
  generalize hW : (w.alloc (.cells #[.int .i64 s.r, .int .i64 s.q, .int .i64 s.p, .slice y.cA s.nA y.pA, .slice y.cB s.nB y.pB, .slice y.cC s.nC y.pC] 56)).alloc (.cells #[.int .i64 r, .int .i64 n, .int .i64 g] 41) = W0 at K0 RS RT ⊢
  clear hW
  refine (sSysOK_any s y _ (hik (hv.out.keep K0.out)) hsy).mono ?_
  rintro e W1 ⟨rfl, kk⟩
  replace K0 := hik (K0.out.trans kk)
  replace RS := hik (rowIs_keep RS.out kk)
  replace RT := hik (rowIs_keep RT.out kk)
  clear kk
  cases b0 : sysb s
  · have H1 := hik (show psv s r n g = 0 by unfold psv; rw [b0]; rfl)
    have H2 := hik (show psc s r n g = 1 by unfold psc; rw [b0]; rfl)
    go_wp2
    go_ret2
    exact ⟨ret_two H1.out.symm H2.out.symm, K0.out⟩
  have SQ := hik (sysb_b9 b0)
  have xRT0 : W1.cell? ⟨w.heap.size + 1, 0, none⟩ = some (.int .i64 r) := RT.out.cell (i := 0) (by omega)
  have xRT1 : W1.cell? ⟨w.heap.size + 1, 1, none⟩ = some (.int .i64 n) := RT.out.cell (i := 1) (by omega)
  have xRT2 : W1.cell? ⟨w.heap.size + 1, 2, none⟩ = some (.int .i64 g) := RT.out.cell (i := 2) (by omega)
  go_wp2_with fail
  clear xRT0 xRT1 xRT2
  refine (sSettingOK_any r n g _).mono ?_
  rintro e W2 ⟨rfl, kk⟩
  replace K0 := hik (K0.out.trans kk)
  replace RS := hik (rowIs_keep RS.out kk)
  replace RT := hik (rowIs_keep RT.out kk)
  clear kk
  cases b1 : stb r n g
  · have H1 := hik (show psv s r n g = 0 by unfold psv; rw [b0, b1]; rfl)
    have H2 := hik (show psc s r n g = 1 by unfold psc; rw [b0, b1]; rfl)
    go_wp2
    go_ret2
    exact ⟨ret_two H1.out.symm H2.out.symm, K0.out⟩
  have ST := hik (stb_parts b1)
  have H1 := hik (show psv s r n g = 64 + 32 * s.r + 24 * s.q + osn (s.q - 1) r n by unfold psv; rw [b0, b1]; rfl)
  have H2 := hik (show psc s r n g = 0 by unfold psc; rw [b0, b1]; rfl)
  have xRS0 : W2.cell? ⟨w.heap.size, 0, none⟩ = some (.int .i64 s.r) := RS.out.cell (i := 0) (by omega)
  have xRS1 : W2.cell? ⟨w.heap.size, 1, none⟩ = some (.int .i64 s.q) := RS.out.cell (i := 1) (by omega)
  have xRS2 : W2.cell? ⟨w.heap.size, 2, none⟩ = some (.int .i64 s.p) := RS.out.cell (i := 2) (by omega)
  have xRS3 : W2.cell? ⟨w.heap.size, 3, none⟩ = some (.slice y.cA s.nA y.pA) := RS.out.cell (i := 3) (by omega)
  have xRS4 : W2.cell? ⟨w.heap.size, 4, none⟩ = some (.slice y.cB s.nB y.pB) := RS.out.cell (i := 4) (by omega)
  have xRS5 : W2.cell? ⟨w.heap.size, 5, none⟩ = some (.slice y.cC s.nC y.pC) := RS.out.cell (i := 5) (by omega)
  have xRT0 : W2.cell? ⟨w.heap.size + 1, 0, none⟩ = some (.int .i64 r) := RT.out.cell (i := 0) (by omega)
  have xRT1 : W2.cell? ⟨w.heap.size + 1, 1, none⟩ = some (.int .i64 n) := RT.out.cell (i := 1) (by omega)
  have xRT2 : W2.cell? ⟨w.heap.size + 1, 2, none⟩ = some (.int .i64 g) := RT.out.cell (i := 2) (by omega)
  go_wp2_with fail
  clear xRS0 xRS1 xRS2 xRS3 xRS4 xRS5 xRT0 xRT1 xRT2
  refine (sSize14_any s y r n g _ SQ ST).mono ?_
  rintro e W3 ⟨rfl, kk⟩
  replace K0 := hik (K0.out.trans kk)
  replace RS := hik (rowIs_keep RS.out kk)
  replace RT := hik (rowIs_keep RT.out kk)
  clear kk
  go_wp2
  go_ret2
  exact ⟨ret_two H1.out.symm H2.out.symm, K0.out⟩
end Go.Proofs.Ytfbjlohnbpienaa
