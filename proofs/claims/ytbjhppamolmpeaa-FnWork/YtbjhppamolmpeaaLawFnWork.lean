/- For all codes (slices of bytes): the law FnWork holds: how much a verification of a drawn system hashes is what the model says, and grows with each query. No condition. -/
import Derived.Test.YtbjhppamolmpeaaRows
import Derived.WalkKit
import Derived.ProofKit
import Derived.OpenShut
import Derived.Test.YtbjhppamolmpeaaWorY
import Derived.Test.YtbjhppamolmpeaaWorS
import Derived.Test.YtbjhppamolmpeaaSyDt
import Derived.Test.YtbjhppamolmpeaaSetE
import Derived.Test.YtbjhppamolmpeaaBzaf
import Derived.Test.YtbjhppamolmpeaaWorN
import Derived.ShutString
import Derived.ChangeOld
import Derived.Below
namespace Go.Proofs.Ytbjhppamolmpeaa.fnWork
open Go.ChangeShapes Go.WideShapes Go.ChangeAt Go.RowKit
open Go.ChangeMaps (open_string shut_string)
set_option linter.unusedVariables false

theorem own : ownKnob Try.prog.godebug = none := by kernel_rfl
theorem laidOut : laidOutB Try.prog = true := by kernel_rfl

/-- WHAT THE WALK IS TOLD OF A SLICE OF INTEGERS THAT CAME IN: it is nil; or it leads to a row of 'cap' cells, the numbers 'zs' (the first 'len' are its elements, the rest its spare room), each fitting its kind. -/
def IsRow (k : IntKind) (w : World) (a : Option Addr) (len cap : Nat) (zs : List Int) : Prop :=
  (a = none ∧ len = 0 ∧ cap = 0 ∧ zs = []) ∨
  ∃ x, a = some x ∧ len ≤ cap ∧ cap ≤ maxLen ∧ zs.length = cap ∧ (∀ i, i < zs.length → w.cell? (x.add i) = some (.int k (zs.getD i 0))) ∧ ∀ n ∈ zs, (Lit.int k n).wf = true

set_option linter.unusedSimpArgs false
set_option linter.unusedVariables false
set_option maxRecDepth 100000 in
set_option maxHeartbeats 4000000 in
theorem walk (a0 : Option Addr) (len0 cap0 : Nat) (z0 : List Int) (a1 : Option Addr) (len1 cap1 : Nat) (z1 : List Int) (w : World) (w0 : IsRow .u8 w a0 len0 cap0 z0) (w1 : IsRow .u8 w a1 len1 cap1 z1) :
    Calls Try.prog 8 #[.slice a0 len0 cap0, .slice a1 len1 cap1] w fun e w' => e = .returned (.bool true) ∧ Below w.heap.size w w' := by
  obtain ⟨hB0, hl0⟩ := bytes_of_row w0
  obtain ⟨hB1, hl1⟩ := bytes_of_row w1
  have HB0 := hide hB0
  have HB1 := hide hB1
  clear w0 w1 hB0 hB1
  by_cases hm : 1048576 < len0
  · have hm' : 1048576 < (len0 : Int) := by omega
    go_enter Try.func8, Try.ntmps8
    go_wp2_with fail
    go_ret
    exact ⟨rfl, Below.refl _ _⟩
  by_cases hn : 1048576 < len1
  · have hm' : ¬ 1048576 < (len0 : Int) := by omega
    have hn' : 1048576 < (len1 : Int) := by omega
    go_enter Try.func8, Try.ntmps8
    go_wp2_with fail
    go_ret
    exact ⟨rfl, Below.refl _ _⟩
  · have hm' : ¬ 1048576 < (len0 : Int) := by omega
    have hn' : ¬ 1048576 < (len1 : Int) := by omega
    go_enter Try.func8, Try.ntmps8
    go_wp2_with fail
    clear hm' hn' hm hn
    refine (sysDrawn_any a0 len0 cap0 _ HB0.out hl0).mono ?_
    rintro e W1 ⟨s, y, rfl, v1, b1, _, _, k1⟩
    have V1 := hide v1
    have SB := hide b1
    have HS := hide (sysb_small b1)
    have K1 := hide k1
    have HB2 := hide (HB1.out.below k1.belowAll)
    clear v1 b1 k1 HB0 HB1 hl0
    go_wp2_with fail
    have K2 := hide (K1.out.alloc (.cells #[.int .i64 s.r, .int .i64 s.q, .int .i64 s.p, .slice y.cA s.nA y.pA, .slice y.cB s.nB y.pB, .slice y.cC s.nC y.pC] 46))
    have V2 := hide (V1.out.keep ((Chg.refl nob W1).alloc (.cells #[.int .i64 s.r, .int .i64 s.q, .int .i64 s.p, .slice y.cA s.nA y.pA, .slice y.cB s.nB y.pB, .slice y.cC s.nC y.pC] 46)))
    have R2 := hide (rowN_new W1 6 #[.int .i64 s.r, .int .i64 s.q, .int .i64 s.p, .slice y.cA s.nA y.pA, .slice y.cB s.nB y.pB, .slice y.cC s.nC y.pC] 46 rfl)
    have HB3 := hide (HB2.out.below ((Chg.refl nob W1).alloc (.cells #[.int .i64 s.r, .int .i64 s.q, .int .i64 s.p, .slice y.cA s.nA y.pA, .slice y.cB s.nB y.pB, .slice y.cC s.nC y.pC] 46)).belowAll)
    clear K1 V1 HB2
    generalize W1.alloc (.cells #[.int .i64 s.r, .int .i64 s.q, .int .i64 s.p, .slice y.cA s.nA y.pA, .slice y.cB s.nB y.pB, .slice y.cC s.nC y.pC] 46) = W2 at K2 V2 R2 HB3 ⊢
    refine (settingOf7_any a1 len1 cap1 _ HB3.out hl1).mono ?_
    rintro e W3 ⟨r, n, g, rfl, ⟨hst, r2, n3, g2⟩, k3⟩
    have ST := hide hst
    obtain ⟨⟨r0, _⟩, ⟨n0, _⟩, g0, _⟩ := stb_parts hst
    have ST2 := hide (stb_mk9 (r := r) (q := n + 1) (g := g) r0 (by omega) (by omega) (by omega) g0 (by omega))
    have V3 := hide (V2.out.keep (k3.alloc (.cells #[.int .i64 r, .int .i64 n, .int .i64 g] 26)))
    have K3 := hide ((K2.out.trans k3).alloc (.cells #[.int .i64 r, .int .i64 n, .int .i64 g] 26))
    have R3 := hide (rowIs_keep R2.out (k3.alloc (.cells #[.int .i64 r, .int .i64 n, .int .i64 g] 26)))
    have T3 := hide (rowN_new W3 3 #[.int .i64 r, .int .i64 n, .int .i64 g] 26 rfl)
    have l23 := k3.size
    have l2 := R2.out.lt
    clear k3 hst V2 K2 R2 HB3 hl1
    go_upto_region 5 with fail
    generalize W3.alloc (.cells #[.int .i64 r, .int .i64 n, .int .i64 g] 26) = W4 at K3 V3 R3 T3 ⊢
    have HI := hide (fun (W : World) (h : Hid (SyV W s y)) => workOf_any s y r n g W h HS.out)
    have HSP := hide (fun (W : World) (h : Hid (SyV W s y)) => sWorkOf_any s y r n g W h HS.out)
    have HI2 := hide (fun (W : World) (h : Hid (SyV W s y)) => workOf_any s y r (n + 1) g W h HS.out)
    have hgr := wkV_grows (s := s) (r := r) (q := n) (g := g) SB.out ST.out ST2.out
    rw [show wkC s r n g = 0 by (unfold wkC; rw [SB.out, ST.out]; rfl)] at HI HSP
    rw [show wkC s r (n + 1) g = 0 by (unfold wkC; rw [SB.out, ST2.out]; rfl)] at HI2
    generalize wkV s r n g = A at HI HSP hgr
    generalize wkV s r (n + 1) g = B at HI2 hgr
    clear ST ST2 SB HS
    have x0 : W4.cell? ⟨W1.heap.size, 0, none⟩ = some (.int .i64 s.r) := R3.out.cell (i := 0) (by omega)
    have x1 : W4.cell? ⟨W1.heap.size, 1, none⟩ = some (.int .i64 s.q) := R3.out.cell (i := 1) (by omega)
    have x2 : W4.cell? ⟨W1.heap.size, 2, none⟩ = some (.int .i64 s.p) := R3.out.cell (i := 2) (by omega)
    have x3 : W4.cell? ⟨W1.heap.size, 3, none⟩ = some (.slice y.cA s.nA y.pA) := R3.out.cell (i := 3) (by omega)
    have x4 : W4.cell? ⟨W1.heap.size, 4, none⟩ = some (.slice y.cB s.nB y.pB) := R3.out.cell (i := 4) (by omega)
    have x5 : W4.cell? ⟨W1.heap.size, 5, none⟩ = some (.slice y.cC s.nC y.pC) := R3.out.cell (i := 5) (by omega)
    have z0 : W4.cell? ⟨W3.heap.size, 0, none⟩ = some (.int .i64 r) := T3.out.cell (i := 0) (by omega)
    have z1 : W4.cell? ⟨W3.heap.size, 1, none⟩ = some (.int .i64 n) := T3.out.cell (i := 1) (by omega)
    have z2 : W4.cell? ⟨W3.heap.size, 2, none⟩ = some (.int .i64 g) := T3.out.cell (i := 2) (by omega)
    go_wp2_with fail
    refine (HI.out _ V3).mono ?_
    rintro e W5 ⟨rfl, kk⟩
    have V5 := hide (V3.out.keep kk)
    have K5 := hide (K3.out.trans kk)
    have R5 := hide (rowIs_keep R3.out kk)
    have T5 := hide (rowIs_keep T3.out kk)
    clear kk V3 K3 R3 T3 x0 x1 x2 x3 x4 x5 z0 z1 z2
    have x0 : W5.cell? ⟨W1.heap.size, 0, none⟩ = some (.int .i64 s.r) := R5.out.cell (i := 0) (by omega)
    have x1 : W5.cell? ⟨W1.heap.size, 1, none⟩ = some (.int .i64 s.q) := R5.out.cell (i := 1) (by omega)
    have x2 : W5.cell? ⟨W1.heap.size, 2, none⟩ = some (.int .i64 s.p) := R5.out.cell (i := 2) (by omega)
    have x3 : W5.cell? ⟨W1.heap.size, 3, none⟩ = some (.slice y.cA s.nA y.pA) := R5.out.cell (i := 3) (by omega)
    have x4 : W5.cell? ⟨W1.heap.size, 4, none⟩ = some (.slice y.cB s.nB y.pB) := R5.out.cell (i := 4) (by omega)
    have x5 : W5.cell? ⟨W1.heap.size, 5, none⟩ = some (.slice y.cC s.nC y.pC) := R5.out.cell (i := 5) (by omega)
    have z0 : W5.cell? ⟨W3.heap.size, 0, none⟩ = some (.int .i64 r) := T5.out.cell (i := 0) (by omega)
    have z1 : W5.cell? ⟨W3.heap.size, 1, none⟩ = some (.int .i64 n) := T5.out.cell (i := 1) (by omega)
    have z2 : W5.cell? ⟨W3.heap.size, 2, none⟩ = some (.int .i64 g) := T5.out.cell (i := 2) (by omega)
    go_wp2_with fail
    refine (HSP.out _ V5).mono ?_
    rintro e W6 ⟨rfl, kk⟩
    have V6 := hide (V5.out.keep kk)
    have K6 := hide (K5.out.trans kk)
    have R6 := hide (rowIs_keep R5.out kk)
    have T6 := hide (rowIs_keep T5.out kk)
    clear kk V5 K5 R5 T5 x0 x1 x2 x3 x4 x5 z0 z1 z2
    have x0 : W6.cell? ⟨W1.heap.size, 0, none⟩ = some (.int .i64 s.r) := R6.out.cell (i := 0) (by omega)
    have x1 : W6.cell? ⟨W1.heap.size, 1, none⟩ = some (.int .i64 s.q) := R6.out.cell (i := 1) (by omega)
    have x2 : W6.cell? ⟨W1.heap.size, 2, none⟩ = some (.int .i64 s.p) := R6.out.cell (i := 2) (by omega)
    have x3 : W6.cell? ⟨W1.heap.size, 3, none⟩ = some (.slice y.cA s.nA y.pA) := R6.out.cell (i := 3) (by omega)
    have x4 : W6.cell? ⟨W1.heap.size, 4, none⟩ = some (.slice y.cB s.nB y.pB) := R6.out.cell (i := 4) (by omega)
    have x5 : W6.cell? ⟨W1.heap.size, 5, none⟩ = some (.slice y.cC s.nC y.pC) := R6.out.cell (i := 5) (by omega)
    have z0 : W6.cell? ⟨W3.heap.size, 0, none⟩ = some (.int .i64 r) := T6.out.cell (i := 0) (by omega)
    have z1 : W6.cell? ⟨W3.heap.size, 1, none⟩ = some (.int .i64 n) := T6.out.cell (i := 1) (by omega)
    have z2 : W6.cell? ⟨W3.heap.size, 2, none⟩ = some (.int .i64 g) := T6.out.cell (i := 2) (by omega)
    go_upto_region 9 with fail
    have V7 := hide (V6.out.keep ((Chg.refl nob W6).alloc (.cells #[.int .i64 r, .int .i64 (n + 1), .int .i64 g] 26)))
    have K7 := hide (K6.out.alloc (.cells #[.int .i64 r, .int .i64 (n + 1), .int .i64 g] 26))
    have R7 := hide (rowIs_keep R6.out ((Chg.refl nob W6).alloc (.cells #[.int .i64 r, .int .i64 (n + 1), .int .i64 g] 26)))
    have U7 := hide (rowN_new W6 3 #[.int .i64 r, .int .i64 (n + 1), .int .i64 g] 26 rfl)
    clear V6 K6 R6 T6 x0 x1 x2 x3 x4 x5 z0 z1 z2
    generalize W6.alloc (.cells #[.int .i64 r, .int .i64 (n + 1), .int .i64 g] 26) = W7 at K7 V7 R7 U7 ⊢
    have x0 : W7.cell? ⟨W1.heap.size, 0, none⟩ = some (.int .i64 s.r) := R7.out.cell (i := 0) (by omega)
    have x1 : W7.cell? ⟨W1.heap.size, 1, none⟩ = some (.int .i64 s.q) := R7.out.cell (i := 1) (by omega)
    have x2 : W7.cell? ⟨W1.heap.size, 2, none⟩ = some (.int .i64 s.p) := R7.out.cell (i := 2) (by omega)
    have x3 : W7.cell? ⟨W1.heap.size, 3, none⟩ = some (.slice y.cA s.nA y.pA) := R7.out.cell (i := 3) (by omega)
    have x4 : W7.cell? ⟨W1.heap.size, 4, none⟩ = some (.slice y.cB s.nB y.pB) := R7.out.cell (i := 4) (by omega)
    have x5 : W7.cell? ⟨W1.heap.size, 5, none⟩ = some (.slice y.cC s.nC y.pC) := R7.out.cell (i := 5) (by omega)
    have z0 : W7.cell? ⟨W6.heap.size, 0, none⟩ = some (.int .i64 r) := U7.out.cell (i := 0) (by omega)
    have z1 : W7.cell? ⟨W6.heap.size, 1, none⟩ = some (.int .i64 (n + 1)) := U7.out.cell (i := 1) (by omega)
    have z2 : W7.cell? ⟨W6.heap.size, 2, none⟩ = some (.int .i64 g) := U7.out.cell (i := 2) (by omega)
    go_wp2_with fail
    refine (HI2.out _ V7).mono ?_
    rintro e W8 ⟨rfl, kk⟩
    have K8 := hide (K7.out.trans kk)
    clear kk V7 K7 R7 U7 x0 x1 x2 x3 x4 x5 z0 z1 z2
    go_wp2_with fail
    go_ret
    exact ⟨rfl, K8.out.toBelow⟩

set_option maxRecDepth 100000 in
theorem lifted (os : Os) (started : os.Started) (H : Type) (enc : TypeId × Value → H) :
    ReturnsInHanded {} Try.checked os 8 .any (Rows.fnWorkSpec.pre6 enc Try.prog Try.f8 Rows.fnWorkRow.domain false) (Rows.fnWorkSpec.post enc Try.prog Try.f8 false true false false) := by
  refine returnsInHanded_of_change (C := Try.checked) own started (by kernel_rfl) Try.func8
    (ChangeSpec.witness6 (enc := enc) (C := Try.checked) false ⟨#[], #[.slice none 0 0, .slice none 0 0], []⟩ 8 (by kernel_rfl) (by kernel_rfl) (by kernel_rfl) (by kernel_rfl)) ?_
  intro W base args ds gs before hval0 hW hcnd _
  have hval : ∀ (j : Nat) t v, Try.f8.params[j]? = some t → args[j]? = some v → Value.okWide Try.prog W .any base t v := hval0
  have hW' := hW
  obtain ⟨p, q, hA0, hV, rfl, hfz, hnd⟩ := hW
  have hA : DataW.TrodAll enc Try.prog W 0 (fun _ => true) true Try.f8.params.toList args.toList ds p := hA0
  rw [Try.params8] at hA hval
  obtain ⟨v0, vs0, d0, ds0, p0, q0, hargs, rfl, rfl, h0, r0⟩ := trodAll_cons hA
  obtain ⟨v1, vs1, d1, ds1, p1, q1, rfl, rfl, rfl, h1, r1⟩ := trodAll_cons r0
  obtain ⟨rfl, rfl, rfl⟩ := trodAll_nil r1
  obtain rfl : args = #[v0, v1] := by cases args; simp_all
  obtain ⟨rfl, rfl⟩ := trodVars_none hV
  obtain ⟨a0, len0, cap0, rfl⟩ := okWide_slice Try.underlying36 (hval 0 36 v0 rfl rfl)
  have k0 := h0
  have lt0 : ∀ x ∈ p0, x.block < W.heap.size := by obtain ⟨m, hm⟩ := k0; exact DataW.trod_lt m _ _ _ hm
  obtain ⟨z0, w0⟩ : ∃ zs, IsRow .u8 W a0 len0 cap0 zs := by
    obtain ⟨fuel, hf⟩ := h0
    rcases open_ints Try.underlying36 Try.underlying5 (by kernel_rfl) hf with ⟨hcs, _⟩ | ⟨x, l, c, zs, hcs, _, hl, hm, hz, _, hcell, hwz⟩
    · simp [Value.cells] at hcs
      obtain ⟨rfl, rfl, rfl⟩ := hcs
      exact ⟨[], .inl ⟨rfl, rfl, rfl, rfl⟩⟩
    · simp [Value.cells] at hcs
      obtain ⟨rfl, rfl, rfl⟩ := hcs
      exact ⟨zs, .inr ⟨_, rfl, hl, hm, by simpa using hz, hcell, hwz⟩⟩
  obtain ⟨a1, len1, cap1, rfl⟩ := okWide_slice Try.underlying36 (hval 1 36 v1 rfl rfl)
  have k1 := h1
  have lt1 : ∀ x ∈ p1, x.block < W.heap.size := by obtain ⟨m, hm⟩ := k1; exact DataW.trod_lt m _ _ _ hm
  obtain ⟨z1, w1⟩ : ∃ zs, IsRow .u8 W a1 len1 cap1 zs := by
    obtain ⟨fuel, hf⟩ := h1
    rcases open_ints Try.underlying36 Try.underlying5 (by kernel_rfl) hf with ⟨hcs, _⟩ | ⟨x, l, c, zs, hcs, _, hl, hm, hz, _, hcell, hwz⟩
    · simp [Value.cells] at hcs
      obtain ⟨rfl, rfl, rfl⟩ := hcs
      exact ⟨[], .inl ⟨rfl, rfl, rfl, rfl⟩⟩
    · simp [Value.cells] at hcs
      obtain ⟨rfl, rfl, rfl⟩ := hcs
      exact ⟨zs, .inr ⟨_, rfl, hl, hm, by simpa using hz, hcell, hwz⟩⟩
  clear hA0 hval0
  refine (walk a0 len0 cap0 z0 a1 len1 cap1 z1 W w0 w1).mono fun e W' ⟨he, bel⟩ => ?_
  subst he
  exact ⟨_, rfl, _, _, _, [], _, [], hW', trodAll_mk1 (shut_bool Try.underlying4 _), (trodAll_cons_mk (Below.trod laidOut (by kernel_rfl) (of_decide_eq_true (by kernel_rfl)) k0 bel lt0) (trodAll_cons_mk (Below.trod laidOut (by kernel_rfl) (of_decide_eq_true (by kernel_rfl)) k1 bel lt1) trodAll_mk0)), rfl, bel.frame _, fun h => by cases h⟩

theorem over : Rows.fnWorkRow.holds Try.pinned (OpenSpec.ofChange Rows.fnWorkSpec) :=
  OpenClaim.holds_of_wide 8 Try.f8 rfl rfl rfl rfl rfl rfl rfl ⟨rfl, rfl, rfl, rfl, rfl⟩ rfl rfl rfl rfl rfl (by kernel_rfl) Try.func8 (by kernel_rfl)
    (of_decide_eq_true (by kernel_rfl)) (by unfold Func.isWrapper; first | (rw [if_pos (by decide +kernel)]; kernel_rfl) | (rw [if_neg (by decide +kernel)]; exact ⟨rfl, rfl⟩))
    (fun os started H enc _ => lifted os started H enc)


end Go.Proofs.Ytbjhppamolmpeaa.fnWork
namespace Go.Proofs.Ytbjhppamolmpeaa
theorem FnWork_holds : Rows.FnWorkSaid := fnWork.over
#print axioms FnWork_holds

end Go.Proofs.Ytbjhppamolmpeaa
