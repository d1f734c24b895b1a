/- For all codes (slices of bytes): the law FnSelect holds: a setting that is selected has the bits that were asked for, and one query less has not; more queries never have fewer bits. -/
import Derived.Test.YtbjhppamolmpeaaRows
import Derived.WalkKit
import Derived.ProofKit
import Derived.OpenShut
import Derived.Test.YtbjhppamolmpeaaParY
import Derived.Test.YtbjhppamolmpeaaParS
import Derived.Test.YtbjhppamolmpeaaParL
import Derived.Test.YtbjhppamolmpeaaSrcOf
import Derived.Test.YtbjhppamolmpeaaLawH
import Derived.ShutString
import Derived.ChangeOld
import Derived.Below
namespace Go.Proofs.Ytbjhppamolmpeaa.fnSelect
open Go.ChangeShapes Go.WideShapes Go.ChangeAt Go.RowKit
open Go.ChangeMaps (open_string shut_string)
set_option linter.unusedVariables false

theorem own : ownKnob Try.prog.godebug = none := by kernel_rfl
theorem laidOut : laidOutB Try.prog = true := by kernel_rfl

/-- WHAT THE WALK IS TOLD OF A SLICE OF INTEGERS THAT CAME IN: it is nil; or it leads to a row of 'cap' cells, the numbers 'zs' (the first 'len' are its elements, the rest its spare room), each fitting its kind. -/
def IsRow (k : IntKind) (w : World) (a : Option Addr) (len cap : Nat) (zs : List Int) : Prop :=
  (a = none ∧ len = 0 ∧ cap = 0 ∧ zs = []) ∨
  ∃ x, a = some x ∧ len ≤ cap ∧ cap ≤ maxLen ∧ zs.length = cap ∧ (∀ i, i < zs.length → w.cell? (x.add i) = some (.int k (zs.getD i 0))) ∧ ∀ n ∈ zs, (Lit.int k n).wf = true

set_option linter.unusedSimpArgs false
set_option linter.unusedVariables false
set_option maxRecDepth 100000 in
set_option maxHeartbeats 4000000 in
theorem walk (a0 : Option Addr) (len0 cap0 : Nat) (z0 : List Int) (a1 : Option Addr) (len1 cap1 : Nat) (z1 : List Int) (w : World) (w0 : IsRow .u8 w a0 len0 cap0 z0) (w1 : IsRow .u8 w a1 len1 cap1 z1) :
    Calls Try.prog 6 #[.slice a0 len0 cap0, .slice a1 len1 cap1] w fun e w' => e = .returned (.bool true) ∧ Below w.heap.size w w' := by
  obtain ⟨hB0, hl0⟩ := bytes_of_row w0
  obtain ⟨hB1, hl1⟩ := bytes_of_row w1
  have HB0 := hide hB0
  have HB1 := hide hB1
  clear w0 w1 hB0 hB1
  by_cases hm : 1048576 < len0
  · have hm' : 1048576 < (len0 : Int) := by omega
    go_enter Try.func6, Try.ntmps6
    go_wp2_with fail
    go_ret
    exact ⟨rfl, Below.refl _ _⟩
  by_cases hn : 1048576 < len1
  · have hm' : ¬ 1048576 < (len0 : Int) := by omega
    have hn' : 1048576 < (len1 : Int) := by omega
    go_enter Try.func6, Try.ntmps6
    go_wp2_with fail
    go_ret
    exact ⟨rfl, Below.refl _ _⟩
  have hm' : ¬ 1048576 < (len0 : Int) := by omega
  have hn' : ¬ 1048576 < (len1 : Int) := by omega
  go_enter Try.func6, Try.ntmps6
  go_wp2_with fail
  refine (at_any a0 len0 cap0 0 17 _ HB0.out hl0 (by omega) (by omega) (by omega) (by omega)).mono ?_
  rintro e W1 ⟨b, rfl, b0, b1, k1⟩
  have G1 := hide (Chg.of_below k1)
  have HB2 := hide (HB1.out.below k1)
  clear k1 HB1
  go_wp2_with fail
  refine (at_any a1 len1 cap1 0 3 _ HB2.out hl1 (by omega) (by omega) (by omega) (by omega)).mono ?_
  rintro e W2 ⟨m, rfl, m0, m1, k2⟩
  have G2 := hide (G1.out.trans (Chg.of_below k2))
  have HB3 := hide (HB2.out.below k2)
  clear k2 HB2 G1
  obtain ⟨r, hr⟩ : ∃ r : Nat, 1 + m = (r : Int) := ⟨(1 + m).toNat, by omega⟩
  have r0 : 1 ≤ r := by omega
  have r1 : r < 4 := by omega
  go_wp2_with fail
  refine (at_any a1 len1 cap1 1 13 _ HB3.out hl1 (by omega) (by omega) (by omega) (by omega)).mono ?_
  rintro e W3 ⟨g, rfl, g0, g1, k3⟩
  have G3 := hide (G2.out.trans (Chg.of_below k3))
  clear k3 HB3 G2
  go_wp2_with fail
  (try rw [hr])
  clear hr
  refine (selectX_any b r g _).mono ?_
  rintro e W4 ⟨he, k4⟩
  have he : e = _ := he
  subst he
  have G4 := hide (G3.out.trans k4)
  clear k4 G3
  by_cases hq : slQ b r g ≤ 8
  · obtain ⟨K, K1, K8, c0, v0, v1, v2, d0, d1, e0, e1, f0, f1, f2⟩ := sl_some r0 r1 b0 b1 g0 g1 hq
    have VS := hide (⟨c0, v0, v1, v2⟩ : slC b r g = 0 ∧ slV b r g 0 = r ∧ slV b r g 1 = (K : Int) ∧ slV b r g 2 = g)
    have VQ := hide (⟨d0, d1⟩ : qvC r K g = 0 ∧ qvV r K g = (qbN r K : Int) + g)
    have VE := hide (⟨e0, e1⟩ : seC r K g b = 0 ∧ seV r K g b = true)
    have VL := hide f2
    rw [c0, v0, v1, v2]
    clear c0 v0 v1 v2 d0 d1 e0 e1 f2 hq hm hn hl0 hl1 m0 m1
    generalize qbN r K = B at f0 f1 VQ VL
    go_wp2_with fail
    have G5 := hide (G4.out.alloc (.cells #[.int .i64 (r : Int), .int .i64 (K : Int), .int .i64 g] 26))
    have R5 := hide (rowN_new W4 3 #[.int .i64 (r : Int), .int .i64 (K : Int), .int .i64 g] 26 rfl)
    clear G4
    generalize W4.alloc (.cells #[.int .i64 (r : Int), .int .i64 (K : Int), .int .i64 g] 26) = W5 at G5 R5 ⊢
    refine (sSelect_any b r g _).mono ?_
    rintro e W6 ⟨he, k6⟩
    have he : e = _ := he
    obtain ⟨c0, v0, v1, v2⟩ := VS.out
    rw [c0, v0, v1, v2] at he
    subst he
    clear c0 v0 v1 v2
    have G6 := hide ((G5.out.trans k6).alloc (.cells #[.int .i64 (r : Int), .int .i64 (K : Int), .int .i64 g] 26))
    have R6 := hide (rowIs_keep R5.out (k6.alloc (.cells #[.int .i64 (r : Int), .int .i64 (K : Int), .int .i64 g] 26)))
    have S6 := hide (rowN_new W6 3 #[.int .i64 (r : Int), .int .i64 (K : Int), .int .i64 g] 26 rfl)
    have h56 := k6.size
    have hl5 := R5.out.lt
    clear k6 G5 R5
    go_upto_region 8 with fail
    generalize W6.alloc (.cells #[.int .i64 (r : Int), .int .i64 (K : Int), .int .i64 g] 26) = W7 at G6 R6 S6 ⊢
    have x0 : W7.cell? ⟨W4.heap.size, 0, none⟩ = some (.int .i64 (r : Int)) := R6.out.cell (i := 0) (by omega)
    have x1 : W7.cell? ⟨W4.heap.size, 1, none⟩ = some (.int .i64 (K : Int)) := R6.out.cell (i := 1) (by omega)
    have x2 : W7.cell? ⟨W4.heap.size, 2, none⟩ = some (.int .i64 g) := R6.out.cell (i := 2) (by omega)
    have y0 : W7.cell? ⟨W6.heap.size, 0, none⟩ = some (.int .i64 (r : Int)) := S6.out.cell (i := 0) (by omega)
    have y1 : W7.cell? ⟨W6.heap.size, 1, none⟩ = some (.int .i64 (K : Int)) := S6.out.cell (i := 1) (by omega)
    have y2 : W7.cell? ⟨W6.heap.size, 2, none⟩ = some (.int .i64 g) := S6.out.cell (i := 2) (by omega)
    go_wp2_with fail
    clear y0 y1 y2 S6
    refine (queryBitsX_any r K g _).mono ?_
    rintro e W8 ⟨he, k8⟩
    rw [VQ.out.1, VQ.out.2] at he
    subst he
    have G8 := hide (G6.out.trans k8)
    have R8 := hide (rowIs_keep R6.out k8)
    clear k8 G6 R6 x0 x1 x2
    have x0 : W8.cell? ⟨W4.heap.size, 0, none⟩ = some (.int .i64 (r : Int)) := R8.out.cell (i := 0) (by omega)
    have x1 : W8.cell? ⟨W4.heap.size, 1, none⟩ = some (.int .i64 (K : Int)) := R8.out.cell (i := 1) (by omega)
    have x2 : W8.cell? ⟨W4.heap.size, 2, none⟩ = some (.int .i64 g) := R8.out.cell (i := 2) (by omega)
    go_wp2_with fail
    refine (secureX_any r K g b _).mono ?_
    rintro e W9 ⟨he, k9⟩
    rw [VE.out.1, VE.out.2] at he
    subst he
    have G9 := hide (G8.out.trans k9)
    have R9 := hide (rowIs_keep R8.out k9)
    clear k9 G8 R8 x0 x1 x2
    have x0 : W9.cell? ⟨W4.heap.size, 0, none⟩ = some (.int .i64 (r : Int)) := R9.out.cell (i := 0) (by omega)
    have x1 : W9.cell? ⟨W4.heap.size, 1, none⟩ = some (.int .i64 (K : Int)) := R9.out.cell (i := 1) (by omega)
    have x2 : W9.cell? ⟨W4.heap.size, 2, none⟩ = some (.int .i64 g) := R9.out.cell (i := 2) (by omega)
    by_cases hK : (1 : Int) < (K : Int)
    · obtain ⟨d0, d1, e0, e1, f2, f3⟩ := VL.out (by omega)
      have VQ := hide (⟨d0, d1⟩ : qvC r ((K : Int) - 1) g = 0 ∧ qvV r ((K : Int) - 1) g = (qbN r (K - 1) : Int) + g)
      have VE := hide (⟨e0, e1⟩ : seC r ((K : Int) - 1) g b = 0 ∧ seV r ((K : Int) - 1) g b = false)
      clear d0 d1 e0 e1 VL
      generalize qbN r (K - 1) = B2 at f2 f3 VQ
      go_wp2_with fail
      have GA := hide (G9.out.alloc (.cells #[.int .i64 (r : Int), .int .i64 ((K : Int) - 1), .int .i64 g] 26))
      have RA := hide (rowN_new W9 3 #[.int .i64 (r : Int), .int .i64 ((K : Int) - 1), .int .i64 g] 26 rfl)
      clear G9 R9 x0 x1 x2
      generalize W9.alloc (.cells #[.int .i64 (r : Int), .int .i64 ((K : Int) - 1), .int .i64 g] 26) = WA at GA RA ⊢
      refine (queryBitsX_any r ((K : Int) - 1) g _).mono ?_
      rintro e WB ⟨he, k1⟩
      rw [VQ.out.1, VQ.out.2] at he
      subst he
      have GB := hide (GA.out.trans k1)
      have RB := hide (rowIs_keep RA.out k1)
      clear k1 GA RA
      have x0 : WB.cell? ⟨W9.heap.size, 0, none⟩ = some (.int .i64 (r : Int)) := RB.out.cell (i := 0) (by omega)
      have x1 : WB.cell? ⟨W9.heap.size, 1, none⟩ = some (.int .i64 ((K : Int) - 1)) := RB.out.cell (i := 1) (by omega)
      have x2 : WB.cell? ⟨W9.heap.size, 2, none⟩ = some (.int .i64 g) := RB.out.cell (i := 2) (by omega)
      go_wp2_with fail
      refine (secureX_any r ((K : Int) - 1) g b _).mono ?_
      rintro e WC ⟨he, k1⟩
      rw [VE.out.1, VE.out.2] at he
      subst he
      have GC := hide (GB.out.trans k1)
      clear k1 GB RB x0 x1 x2
      go_wp2_with fail
      go_ret
      exact ⟨ret_bool (by first | rfl | (simp; omega)), GC.out.toBelow⟩
    · go_wp2_with fail
      go_ret
      exact ⟨rfl, G9.out.toBelow⟩
  · obtain ⟨c0, v0, v1, v2, d0, d1, d2, d3⟩ := sl_none r0 r1 b0 b1 g0 g1 hq
    have VS := hide (⟨c0, v0, v1, v2⟩ : slC b r g = 16 ∧ slV b r g 0 = 0 ∧ slV b r g 1 = 0 ∧ slV b r g 2 = 0)
    rw [c0, v0, v1, v2]
    have VQ := hide (⟨d0, d1⟩ : qvC r 8 g = 0 ∧ qvV r 8 g = (qbN r 8 : Int) + g)
    clear c0 v0 v1 v2 d0 d1 hq hm hn hl0 hl1 m0 m1
    generalize qbN r 8 = B at d2 d3 VQ
    go_wp2_with fail
    have G5 := hide (G4.out.alloc (.cells #[.int .i64 0, .int .i64 0, .int .i64 0] 26))
    have R5 := hide (rowN_new W4 3 #[.int .i64 0, .int .i64 0, .int .i64 0] 26 rfl)
    clear G4
    generalize W4.alloc (.cells #[.int .i64 0, .int .i64 0, .int .i64 0] 26) = W5 at G5 R5 ⊢
    refine (sSelect_any b r g _).mono ?_
    rintro e W6 ⟨he, k6⟩
    have he : e = _ := he
    obtain ⟨c0, v0, v1, v2⟩ := VS.out
    rw [c0, v0, v1, v2] at he
    subst he
    clear c0 v0 v1 v2
    have G6 := hide ((G5.out.trans k6).alloc (.cells #[.int .i64 0, .int .i64 0, .int .i64 0] 26))
    have R6 := hide (rowIs_keep R5.out (k6.alloc (.cells #[.int .i64 0, .int .i64 0, .int .i64 0] 26)))
    have S6 := hide (rowN_new W6 3 #[.int .i64 0, .int .i64 0, .int .i64 0] 26 rfl)
    have h56 := k6.size
    have hl5 := R5.out.lt
    clear k6 G5 R5
    go_upto_region 8 with fail
    generalize W6.alloc (.cells #[.int .i64 0, .int .i64 0, .int .i64 0] 26) = W7 at G6 R6 S6 ⊢
    have x0 : W7.cell? ⟨W4.heap.size, 0, none⟩ = some (.int .i64 0) := R6.out.cell (i := 0) (by omega)
    have x1 : W7.cell? ⟨W4.heap.size, 1, none⟩ = some (.int .i64 0) := R6.out.cell (i := 1) (by omega)
    have x2 : W7.cell? ⟨W4.heap.size, 2, none⟩ = some (.int .i64 0) := R6.out.cell (i := 2) (by omega)
    have y0 : W7.cell? ⟨W6.heap.size, 0, none⟩ = some (.int .i64 0) := S6.out.cell (i := 0) (by omega)
    have y1 : W7.cell? ⟨W6.heap.size, 1, none⟩ = some (.int .i64 0) := S6.out.cell (i := 1) (by omega)
    have y2 : W7.cell? ⟨W6.heap.size, 2, none⟩ = some (.int .i64 0) := S6.out.cell (i := 2) (by omega)
    go_wp2_with fail
    refine (queryBitsX_any r 8 g _).mono ?_
    rintro e W8 ⟨he, k8⟩
    rw [VQ.out.1, VQ.out.2] at he
    subst he
    have G8 := hide (G6.out.trans k8)
    clear k8 G6 R6 x0 x1 x2 y0 y1 y2
    go_wp2_with fail
    go_ret
    exact ⟨rfl, G8.out.toBelow⟩

set_option maxRecDepth 100000 in
theorem lifted (os : Os) (started : os.Started) (H : Type) (enc : TypeId × Value → H) :
    ReturnsInHanded {} Try.checked os 6 .any (Rows.fnSelectSpec.pre6 enc Try.prog Try.f6 Rows.fnSelectRow.domain false) (Rows.fnSelectSpec.post enc Try.prog Try.f6 false true false false) := by
  refine returnsInHanded_of_change (C := Try.checked) own started (by kernel_rfl) Try.func6
    (ChangeSpec.witness6 (enc := enc) (C := Try.checked) false ⟨#[], #[.slice none 0 0, .slice none 0 0], []⟩ 8 (by kernel_rfl) (by kernel_rfl) (by kernel_rfl) (by kernel_rfl)) ?_
  intro W base args ds gs before hval0 hW hcnd _
  have hval : ∀ (j : Nat) t v, Try.f6.params[j]? = some t → args[j]? = some v → Value.okWide Try.prog W .any base t v := hval0
  have hW' := hW
  obtain ⟨p, q, hA0, hV, rfl, hfz, hnd⟩ := hW
  have hA : DataW.TrodAll enc Try.prog W 0 (fun _ => true) true Try.f6.params.toList args.toList ds p := hA0
  rw [Try.params6] at hA hval
  obtain ⟨v0, vs0, d0, ds0, p0, q0, hargs, rfl, rfl, h0, r0⟩ := trodAll_cons hA
  obtain ⟨v1, vs1, d1, ds1, p1, q1, rfl, rfl, rfl, h1, r1⟩ := trodAll_cons r0
  obtain ⟨rfl, rfl, rfl⟩ := trodAll_nil r1
  obtain rfl : args = #[v0, v1] := by cases args; simp_all
  obtain ⟨rfl, rfl⟩ := trodVars_none hV
  obtain ⟨a0, len0, cap0, rfl⟩ := okWide_slice Try.underlying36 (hval 0 36 v0 rfl rfl)
  have k0 := h0
  have lt0 : ∀ x ∈ p0, x.block < W.heap.size := by obtain ⟨m, hm⟩ := k0; exact DataW.trod_lt m _ _ _ hm
  obtain ⟨z0, w0⟩ : ∃ zs, IsRow .u8 W a0 len0 cap0 zs := by
    obtain ⟨fuel, hf⟩ := h0
    rcases open_ints Try.underlying36 Try.underlying5 (by kernel_rfl) hf with ⟨hcs, _⟩ | ⟨x, l, c, zs, hcs, _, hl, hm, hz, _, hcell, hwz⟩
    · simp [Value.cells] at hcs
      obtain ⟨rfl, rfl, rfl⟩ := hcs
      exact ⟨[], .inl ⟨rfl, rfl, rfl, rfl⟩⟩
    · simp [Value.cells] at hcs
      obtain ⟨rfl, rfl, rfl⟩ := hcs
      exact ⟨zs, .inr ⟨_, rfl, hl, hm, by simpa using hz, hcell, hwz⟩⟩
  obtain ⟨a1, len1, cap1, rfl⟩ := okWide_slice Try.underlying36 (hval 1 36 v1 rfl rfl)
  have k1 := h1
  have lt1 : ∀ x ∈ p1, x.block < W.heap.size := by obtain ⟨m, hm⟩ := k1; exact DataW.trod_lt m _ _ _ hm
  obtain ⟨z1, w1⟩ : ∃ zs, IsRow .u8 W a1 len1 cap1 zs := by
    obtain ⟨fuel, hf⟩ := h1
    rcases open_ints Try.underlying36 Try.underlying5 (by kernel_rfl) hf with ⟨hcs, _⟩ | ⟨x, l, c, zs, hcs, _, hl, hm, hz, _, hcell, hwz⟩
    · simp [Value.cells] at hcs
      obtain ⟨rfl, rfl, rfl⟩ := hcs
      exact ⟨[], .inl ⟨rfl, rfl, rfl, rfl⟩⟩
    · simp [Value.cells] at hcs
      obtain ⟨rfl, rfl, rfl⟩ := hcs
      exact ⟨zs, .inr ⟨_, rfl, hl, hm, by simpa using hz, hcell, hwz⟩⟩
  clear hA0 hval0
  refine (walk a0 len0 cap0 z0 a1 len1 cap1 z1 W w0 w1).mono fun e W' ⟨he, bel⟩ => ?_
  subst he
  exact ⟨_, rfl, _, _, _, [], _, [], hW', trodAll_mk1 (shut_bool Try.underlying4 _), (trodAll_cons_mk (Below.trod laidOut (by kernel_rfl) (of_decide_eq_true (by kernel_rfl)) k0 bel lt0) (trodAll_cons_mk (Below.trod laidOut (by kernel_rfl) (of_decide_eq_true (by kernel_rfl)) k1 bel lt1) trodAll_mk0)), rfl, bel.frame _, fun h => by cases h⟩

theorem over : Rows.fnSelectRow.holds Try.pinned (OpenSpec.ofChange Rows.fnSelectSpec) :=
  OpenClaim.holds_of_wide 6 Try.f6 rfl rfl rfl rfl rfl rfl rfl ⟨rfl, rfl, rfl, rfl, rfl⟩ rfl rfl rfl rfl rfl (by kernel_rfl) Try.func6 (by kernel_rfl)
    (of_decide_eq_true (by kernel_rfl)) (by unfold Func.isWrapper; first | (rw [if_pos (by decide +kernel)]; kernel_rfl) | (rw [if_neg (by decide +kernel)]; exact ⟨rfl, rfl⟩))
    (fun os started H enc _ => lifted os started H enc)

end Go.Proofs.Ytbjhppamolmpeaa.fnSelect
namespace Go.Proofs.Ytbjhppamolmpeaa
theorem FnSelect_holds : Rows.FnSelectSaid := fnSelect.over
#print axioms FnSelect_holds
end Go.Proofs.Ytbjhppamolmpeaa
