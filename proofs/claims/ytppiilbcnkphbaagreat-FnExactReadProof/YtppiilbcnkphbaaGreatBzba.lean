/- Several texts in one: What a proof's bytes tell, read part by part: words. No condition but those that each theorem states. · How many bytes a proof has, the program's answer and the model's: contracts. Conditions: a system that can be read, of at most 2 to the 20 entries a matrix. -/
import Derived.Test.YtppiilbcnkphbaaGreatBzah
import Derived.Test.YtppiilbcnkphbaaGreatBzaz
import Derived.Test.YtppiilbcnkphbaaGreatBzan
import Derived.Test.YtppiilbcnkphbaaGreatBzal
import Derived.Test.YtppiilbcnkphbaaGreatBzay
import Derived.Test.YtppiilbcnkphbaaGreatBzbb
namespace Go.Proofs.YtppiilbcnkphbaaGreat
open Go.ChangeShapes Go.WideShapes Go.ChangeAt Go.RowKit
set_option linter.unusedVariables false
set_option maxRecDepth 100000
set_option linter.unusedSimpArgs false

/-- The proof of a system of 2 to the R rows and 2 to the C columns that stands from byte k on. -/
def rdP (z : Nat → Int) (R C r q k : Nat) : PD := { rt := tz9 z k 0, ng := R, gl := fun _ => 4, gf := fun i => rf (zk z (k + 32 + 8 * 4 * i)), gg := fun i => rg (zk z (k + 32 + 8 * 4 * i)), a0 := w4 z (k + 32 + 32 * R), a1 := w4 z (k + 32 + 32 * R + 4), b0 := w4 z (k + 32 + 32 * R + 8), b1 := w4 z (k + 32 + 32 * R + 12), c0 := w4 z (k + 32 + 32 * R + 16), c1 := w4 z (k + 32 + 32 * R + 20), nw := C, wl := fun _ => 3, wf := fun i => rf (zk z (k + 32 + 32 * R + 24 + 8 * 3 * i)), wg := fun i => rg (zk z (k + 32 + 32 * R + 24 + 8 * 3 * i)), v0 := w4 z (k + 32 + 32 * R + 24 + 24 * C), v1 := w4 z (k + 32 + 32 * R + 24 + 24 * C + 4), op := rdO z (C - 1) r q (k + 32 + 32 * R + 24 + 24 * C + 8) }
/-- How many bytes it has. -/
def prN (R C r q : Nat) : Nat := 32 + 32 * R + 24 + 24 * C + 8 + osN (C - 1) r q
/-- Three blocks. -/
def Tri (m b : Nat) : Prop := m ≤ b ∧ b < m + 3
theorem Chg.nearR {P Q : Nat → Prop} {w W W' : World} (h : Chg P w W) (k : Chg Q W W') (hp : ∀ i, Q i → P i ∨ w.heap.size ≤ i) : Chg P w W' :=
  ⟨k.os.trans h.os, k.tape.trans h.tape, k.output.trans h.output, Nat.le_trans h.size k.size, fun i hi hn => (k.block i (Nat.lt_of_lt_of_le hi h.size) (fun x => by rcases hp i x with q | q; exact hn q; omega)).trans (h.block i hi hn)⟩
theorem pf_three {W : World} {b : Nat} {T : TypeId} {z : Nat → Int} {k : Nat} (h : W.rowIs b T (3 * 2) (pf (rf (zk z k)) (rg (zk z k)))) (j : Nat) (hj : j < 3) : W.cell? ⟨b, 2 * j, none⟩ = some (.int .i64 (w4 z (k + 8 * j))) ∧ W.cell? ⟨b, 2 * j + 1, none⟩ = some (.int .i64 (w4 z (k + 8 * j + 4))) := by
  refine ⟨?_, ?_⟩
  · rw [h.cell (i := 2 * j) (by omega)]
    show some (pf _ _ (2 * j)) = _
    rcases (show j = 0 ∨ j = 1 ∨ j = 2 by omega) with rfl | rfl | rfl <;> (simp [pf, rf, rg, zk_w4])
  · rw [h.cell (i := 2 * j + 1) (by omega)]
    show some (pf _ _ (2 * j + 1)) = _
    rcases (show j = 0 ∨ j = 1 ∨ j = 2 by omega) with rfl | rfl | rfl <;> (simp [pf, rf, rg, zk_w4])
theorem rdP_small (z : Nat → Int) (R C r q k : Nat) (hR : R ≤ 5) (hC : C ≤ 5) (hr : r ≤ 3) (hq : q ≤ 8) : (rdP z R C r q k).small :=
  ⟨by show (tz9 z k 0).size ≤ _; rw [tz9_size]; omega, ⟨by show R ≤ _; omega, fun i j _ _ => (by show (4 : Nat) ≤ 1048576; omega)⟩, ⟨by show C ≤ _; omega, fun i j _ _ => (by show (3 : Nat) ≤ 1048576; omega)⟩, rd_small z (C - 1) r q _ (by omega) hr hq⟩

end Go.Proofs.YtppiilbcnkphbaaGreat

namespace Go.Proofs.YtppiilbcnkphbaaGreat
open Go.ChangeShapes Go.WideShapes Go.ChangeAt Go.RowKit
set_option linter.unusedVariables false
set_option maxRecDepth 100000
set_option linter.unusedSimpArgs false

/-- ProofSize's answer and code. -/
def psv (s : Sy) (r n g : Int) : Int := if sysb s && stb r n g then 64 + 32 * s.r + 24 * s.q + osn (s.q - 1) r n else 0
def psc (s : Sy) (r n g : Int) : Int := if sysb s && stb r n g then 0 else 1
theorem sysb_b9 {s : Sy} (h : sysb s = true) : 1 ≤ s.r ∧ s.r ≤ 5 ∧ 2 ≤ s.q ∧ s.q ≤ 5 := by
  unfold sysb at h
  simp only [Bool.and_eq_true, decide_eq_true_eq] at h
  omega
theorem osn_bd9 {v r q : Int} (hv : 1 ≤ v) (hv2 : v ≤ 6) (hr : 1 ≤ r) (hr2 : r ≤ 3) (hq : 1 ≤ q) (hq2 : q ≤ 8) : 0 ≤ osn v r q ∧ osn v r q ≤ 30000 := by
  have b := hpl_bd v r hv hv2 hr hr2 v.toNat (by omega)
  have hX0 : 0 ≤ 16 * v + 32 * hpl v r v.toNat := by omega
  have hX1 : 16 * v + 32 * hpl v r v.toNat ≤ 2000 := by omega
  have hq0 : 0 ≤ q * (16 * v + 32 * hpl v r v.toNat) := Int.mul_nonneg (by omega) hX0
  have hq1 : q * (16 * v + 32 * hpl v r v.toNat) ≤ 16000 := Int.le_trans (Int.mul_le_mul hq2 hX1 hX0 (by omega)) (by omega)
  unfold osn
  omega
set_option maxHeartbeats 1000000 in
theorem headSize_any (s : Sy) (y : SyA) (w : World) (hb : Hid (1 ≤ s.r ∧ s.r ≤ 5 ∧ 2 ≤ s.q ∧ s.q ≤ 5)) :
    Calls Tryz.prog 44 #[.agg #[.int .i64 s.r, .int .i64 s.q, .int .i64 s.p, .slice y.cA s.nA y.pA, .slice y.cB s.nB y.pB, .slice y.cC s.nC y.pC]] w fun e w' => e = .returned (.int .i64 (64 + 32 * s.r + 24 * s.q)) ∧ Chg nob w w' := by
  obtain ⟨h1, h2, h3, h4⟩ := hb.out
  go_enter Tryz.func44, Tryz.ntmps44
  go_wp2
  go_ret
  exact ⟨ret_int (by omega), (Chg.refl _ _).alloc _⟩
set_option maxHeartbeats 8000000 in
theorem proofSize_any (s : Sy) (y : SyA) (r n g : Int) (w : World) (hv : Hid (SyV w s y)) (hsy : s.small) :
    Calls Tryz.prog 22 #[.agg #[.int .i64 s.r, .int .i64 s.q, .int .i64 s.p, .slice y.cA s.nA y.pA, .slice y.cB s.nB y.pB, .slice y.cC s.nC y.pC], .agg #[.int .i64 r, .int .i64 n, .int .i64 g]] w fun e w' => e = .returned (.tuple #[.int .i64 (psv s r n g), .int .i64 (psc s r n g)]) ∧ Chg nob w w' := by
  have K0 := hik (((Chg.refl nob w).alloc (.cells #[.int .i64 s.r, .int .i64 s.q, .int .i64 s.p, .slice y.cA s.nA y.pA, .slice y.cB s.nB y.pB, .slice y.cC s.nC y.pC] 43)).alloc (.cells #[.int .i64 r, .int .i64 n, .int .i64 g] 45))
  have RS := hik (rowIs_keep (rowN_new w 6 #[.int .i64 s.r, .int .i64 s.q, .int .i64 s.p, .slice y.cA s.nA y.pA, .slice y.cB s.nB y.pB, .slice y.cC s.nC y.pC] 43 rfl) ((Chg.refl nob _).alloc (.cells #[.int .i64 r, .int .i64 n, .int .i64 g] 45)))
  have RT := hik (rowN_new (w.alloc (.cells #[.int .i64 s.r, .int .i64 s.q, .int .i64 s.p, .slice y.cA s.nA y.pA, .slice y.cB s.nB y.pB, .slice y.cC s.nC y.pC] 43)) 3 #[.int .i64 r, .int .i64 n, .int .i64 g] 45 rfl)
  rw [asz] at RT
  go_enter Tryz.func22, Tryz.ntmps22
  go_wp2_with fail
  generalize hW : (w.alloc (.cells #[.int .i64 s.r, .int .i64 s.q, .int .i64 s.p, .slice y.cA s.nA y.pA, .slice y.cB s.nB y.pB, .slice y.cC s.nC y.pC] 43)).alloc (.cells #[.int .i64 r, .int .i64 n, .int .i64 g] 45) = W0 at K0 RS RT ⊢
  clear hW
  refine (sysOK_any s y _ (hik (hv.out.keep K0.out)) hsy).mono ?_
  rintro e W1 ⟨rfl, kk⟩
  replace K0 := hik (K0.out.trans kk)
  replace RS := hik (rowIs_keep RS.out kk)
  replace RT := hik (rowIs_keep RT.out kk)
  clear kk
  cases b0 : sysb s
  · have H1 := hik (show psv s r n g = 0 by unfold psv; rw [b0]; rfl)
    have H2 := hik (show psc s r n g = 1 by unfold psc; rw [b0]; rfl)
    go_wp2
    go_ret2
    exact ⟨ret_two H1.out.symm H2.out.symm, K0.out⟩
  have SQ := hik (sysb_b9 b0)
  have xRT0 : W1.cell? ⟨w.heap.size + 1, 0, none⟩ = some (.int .i64 r) := RT.out.cell (i := 0) (by omega)
  have xRT1 : W1.cell? ⟨w.heap.size + 1, 1, none⟩ = some (.int .i64 n) := RT.out.cell (i := 1) (by omega)
  have xRT2 : W1.cell? ⟨w.heap.size + 1, 2, none⟩ = some (.int .i64 g) := RT.out.cell (i := 2) (by omega)
  go_wp2_with fail
  clear xRT0 xRT1 xRT2
  refine (settingOK_any r n g _).mono ?_
  rintro e W2 ⟨rfl, kk⟩
  replace K0 := hik (K0.out.trans kk)
  replace RS := hik (rowIs_keep RS.out kk)
  replace RT := hik (rowIs_keep RT.out kk)
  clear kk
  cases b1 : stb r n g
  · have H1 := hik (show psv s r n g = 0 by unfold psv; rw [b0, b1]; rfl)
    have H2 := hik (show psc s r n g = 1 by unfold psc; rw [b0, b1]; rfl)
    go_wp2
    go_ret2
    exact ⟨ret_two H1.out.symm H2.out.symm, K0.out⟩
  have ST := hik (stb_parts b1)
  obtain ⟨q1, q2, q3, q4⟩ := SQ.out
  obtain ⟨⟨r0, r1⟩, ⟨n0, n1⟩, g0, g1⟩ := ST.out
  have HV := hik (show vrB (s.q - 1) = true from decide_eq_true (by omega))
  have OB := hik (osn_bd9 (v := s.q - 1) (r := r) (q := n) (by omega) (by omega) r0 r1 n0 n1)
  have H1 := hik (show psv s r n g = 64 + 32 * s.r + 24 * s.q + osn (s.q - 1) r n by unfold psv; rw [b0, b1]; rfl)
  have H2 := hik (show psc s r n g = 0 by unfold psc; rw [b0, b1]; rfl)
  have xRS1 : W2.cell? ⟨w.heap.size, 1, none⟩ = some (.int .i64 s.q) := RS.out.cell (i := 1) (by omega)
  have xRT0 : W2.cell? ⟨w.heap.size + 1, 0, none⟩ = some (.int .i64 r) := RT.out.cell (i := 0) (by omega)
  have xRT1 : W2.cell? ⟨w.heap.size + 1, 1, none⟩ = some (.int .i64 n) := RT.out.cell (i := 1) (by omega)
  have xRT2 : W2.cell? ⟨w.heap.size + 1, 2, none⟩ = some (.int .i64 g) := RT.out.cell (i := 2) (by omega)
  go_wp2_with fail
  clear xRS1 xRT0 xRT1 xRT2
  refine (openingSize_any (s.q - 1) r n g _).mono ?_
  rintro e W3 ⟨he, kk⟩
  rw [show osv (s.q - 1) r n g = osn (s.q - 1) r n by (unfold osv; rw [b1, HV.out]; rfl), show osc (s.q - 1) r n g = 0 by (unfold osc; rw [b1, HV.out]; rfl)] at he
  subst he
  replace K0 := hik (K0.out.trans kk)
  replace RS := hik (rowIs_keep RS.out kk)
  replace RT := hik (rowIs_keep RT.out kk)
  clear kk
  obtain ⟨o0, o1⟩ := OB.out
  generalize osn (s.q - 1) r n = on at H1 o0 o1 ⊢
  clear OB
  have xRS0 : W3.cell? ⟨w.heap.size, 0, none⟩ = some (.int .i64 s.r) := RS.out.cell (i := 0) (by omega)
  have xRS1 : W3.cell? ⟨w.heap.size, 1, none⟩ = some (.int .i64 s.q) := RS.out.cell (i := 1) (by omega)
  have xRS2 : W3.cell? ⟨w.heap.size, 2, none⟩ = some (.int .i64 s.p) := RS.out.cell (i := 2) (by omega)
  have xRS3 : W3.cell? ⟨w.heap.size, 3, none⟩ = some (.slice y.cA s.nA y.pA) := RS.out.cell (i := 3) (by omega)
  have xRS4 : W3.cell? ⟨w.heap.size, 4, none⟩ = some (.slice y.cB s.nB y.pB) := RS.out.cell (i := 4) (by omega)
  have xRS5 : W3.cell? ⟨w.heap.size, 5, none⟩ = some (.slice y.cC s.nC y.pC) := RS.out.cell (i := 5) (by omega)
  go_wp2_with fail
  clear xRS0 xRS1 xRS2 xRS3 xRS4 xRS5
  refine (headSize_any s y _ SQ).mono ?_
  rintro e W4 ⟨rfl, kk⟩
  replace K0 := hik (K0.out.trans kk)
  replace RS := hik (rowIs_keep RS.out kk)
  replace RT := hik (rowIs_keep RT.out kk)
  clear kk
  go_wp2
  go_ret2
  exact ⟨ret_two (by rw [H1.out]) H2.out.symm, K0.out⟩

end Go.Proofs.YtppiilbcnkphbaaGreat
