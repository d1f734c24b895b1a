/- For all codes (slices of bytes): the law FnExtInverse holds: an inverse undoes a product; powers add their exponents. No condition. -/
import Derived.Test.YtimpmiamfpnjaaaRows
import Derived.WalkKit
import Derived.ProofKit
import Derived.OpenShut
import Derived.Test.YtimpmiamfpnjaaaSrcC
import Derived.Test.YtimpmiamfpnjaaaExtK
import Derived.Test.YtimpmiamfpnjaaaLawH
import Derived.ShutString
import Derived.ChangeOld
import Derived.Below
namespace Go.Proofs.Ytimpmiamfpnjaaa.fnExtInverse
open Go.ChangeShapes Go.WideShapes Go.ChangeAt Go.RowKit
open Go.ChangeMaps (open_string shut_string)
set_option linter.unusedVariables false

theorem own : ownKnob Try.prog.godebug = none := by kernel_rfl
theorem laidOut : laidOutB Try.prog = true := by kernel_rfl

/-- WHAT THE WALK IS TOLD OF A SLICE OF INTEGERS THAT CAME IN: it is nil; or it leads to a row of 'cap' cells, the numbers 'zs' (the first 'len' are its elements, the rest its spare room), each fitting its kind. -/
def IsRow (k : IntKind) (w : World) (a : Option Addr) (len cap : Nat) (zs : List Int) : Prop :=
  (a = none ∧ len = 0 ∧ cap = 0 ∧ zs = []) ∨
  ∃ x, a = some x ∧ len ≤ cap ∧ cap ≤ maxLen ∧ zs.length = cap ∧ (∀ i, i < zs.length → w.cell? (x.add i) = some (.int k (zs.getD i 0))) ∧ ∀ n ∈ zs, (Lit.int k n).wf = true

set_option maxRecDepth 100000 in
set_option maxHeartbeats 4000000 in
theorem walk (a0 : Option Addr) (len0 cap0 : Nat) (z0 : List Int) (a1 : Option Addr) (len1 cap1 : Nat) (z1 : List Int) (w : World) (w0 : IsRow .u8 w a0 len0 cap0 z0) (w1 : IsRow .u8 w a1 len1 cap1 z1) :
    Calls Try.prog 7 #[.slice a0 len0 cap0, .slice a1 len1 cap1] w fun e w' => e = .returned (.bool true) ∧ Below w.heap.size w w' := by
  obtain ⟨hB0, hl0⟩ := bytes_of_row w0
  obtain ⟨hB1, hl1⟩ := bytes_of_row w1
  have HB0 := hide hB0
  have HB1 := hide hB1
  clear w0 w1 hB0 hB1
  by_cases hm : 1048576 < len0
  · have hm' : 1048576 < (len0 : Int) := by omega
    go_enter Try.func7, Try.ntmps7
    go_wp2_with fail
    go_ret
    exact ⟨rfl, Below.refl _ _⟩
  by_cases hn : 1048576 < len1
  · have hm' : ¬ 1048576 < (len0 : Int) := by omega
    have hn' : 1048576 < (len1 : Int) := by omega
    go_enter Try.func7, Try.ntmps7
    go_wp2_with fail
    go_ret
    exact ⟨rfl, Below.refl _ _⟩
  have hm' : ¬ 1048576 < (len0 : Int) := by omega
  have hn' : ¬ 1048576 < (len1 : Int) := by omega
  go_enter Try.func7, Try.ntmps7
  go_wp2_with fail
  refine (extOf_any a0 len0 cap0 _ HB0.out hl0).mono ?_
  rintro e W1 ⟨x1, y1, rfl, ha, kk⟩
  have K1 : Hid (Chg nob w W1) := hide (kk)
  have G1 : Hid (Chg nob w W1) := K1
  have HA := hide ha
  clear ha
  clear K1 kk
  go_wp2_with fail
  refine (at_any a1 len1 cap1 0 40 _ (HB1.out.below ((G1.out.alloc _).toBelow)) hl1 (by omega) (by omega) (by omega) (by omega)).mono ?_
  rintro e W2 ⟨m, rfl, m0, m1, hb⟩
  have K2 : Hid (Chg nob W1 W2) := hide (((Chg.refl nob W1).alloc (.cells #[.int .i64 (x1), .int .i64 (y1)] 37)).trans (Chg.of_below hb))
  have G2 : Hid (Chg nob w W2) := hide (G1.out.trans K2.out)
  have Ea2 : Hid (Elem W2 W1.heap.size (x1) (y1)) := hide ((Elem.new W1 (x1) (y1) 37).keep (Chg.of_below hb))
  clear G1 K2
  clear hb
  go_wp2_with fail
  refine (at_any a1 len1 cap1 1 40 _ (HB1.out.below G2.out.toBelow) hl1 (by omega) (by omega) (by omega) (by omega)).mono ?_
  rintro e W3 ⟨n, rfl, n0, n1, hb⟩
  have K3 : Hid (Chg nob W2 W3) := hide ((Chg.of_below hb))
  have G3 : Hid (Chg nob w W3) := hide (G2.out.trans K3.out)
  have Ea3 : Hid (Elem W3 W1.heap.size (x1) (y1)) := hide (Ea2.out.keep K3.out)
  clear Ea2 G2 K3
  clear hb HB0 HB1
  have va0 := Ea3.out.c0
  have va1 := Ea3.out.c1
  go_wp2_with fail
  refine (extPow_ok _ _ _ _ HA.out m0 (by omega)).mono ?_
  rintro e W4 ⟨rfl, kk⟩
  clear va0 va1
  have K4 : Hid (Chg nob W3 W4) := hide (kk)
  have G4 : Hid (Chg nob w W4) := hide (G3.out.trans K4.out)
  have Ea4 : Hid (Elem W4 W1.heap.size (x1) (y1)) := hide (Ea3.out.keep K4.out)
  clear Ea3 G3 K4 kk
  have va0 := ((Chg.refl nob W4).alloc (.cells #[.int .i64 (pA x1 y1 m), .int .i64 (pB x1 y1 m)] 37)).look Ea4.out.c0
  have va1 := ((Chg.refl nob W4).alloc (.cells #[.int .i64 (pA x1 y1 m), .int .i64 (pB x1 y1 m)] 37)).look Ea4.out.c1
  go_wp2_with fail
  refine (extPow_ok _ _ _ _ HA.out n0 (by omega)).mono ?_
  rintro e W5 ⟨rfl, kk⟩
  clear va0 va1
  have K5 : Hid (Chg nob W4 W5) := hide (((Chg.refl nob W4).alloc (.cells #[.int .i64 (pA x1 y1 m), .int .i64 (pB x1 y1 m)] 37)).trans kk)
  have G5 : Hid (Chg nob w W5) := hide (G4.out.trans K5.out)
  have Ea5 : Hid (Elem W5 W1.heap.size (x1) (y1)) := hide (Ea4.out.keep K5.out)
  have Ex5 : Hid (Elem W5 W4.heap.size (pA x1 y1 m) (pB x1 y1 m)) := hide ((Elem.new W4 (pA x1 y1 m) (pB x1 y1 m) 37).keep kk)
  clear Ea4 G4 K5 kk
  have va0 := ((Chg.refl nob W5).alloc (.cells #[.int .i64 (pA x1 y1 n), .int .i64 (pB x1 y1 n)] 37)).look Ea5.out.c0
  have va1 := ((Chg.refl nob W5).alloc (.cells #[.int .i64 (pA x1 y1 n), .int .i64 (pB x1 y1 n)] 37)).look Ea5.out.c1
  go_wp2_with fail
  refine (extPow_ok _ _ _ _ HA.out (by omega) (by omega)).mono ?_
  rintro e W6 ⟨rfl, kk⟩
  clear va0 va1
  have K6 : Hid (Chg nob W5 W6) := hide (((Chg.refl nob W5).alloc (.cells #[.int .i64 (pA x1 y1 n), .int .i64 (pB x1 y1 n)] 37)).trans kk)
  have G6 : Hid (Chg nob w W6) := hide (G5.out.trans K6.out)
  have Ea6 : Hid (Elem W6 W1.heap.size (x1) (y1)) := hide (Ea5.out.keep K6.out)
  have Ex6 : Hid (Elem W6 W4.heap.size (pA x1 y1 m) (pB x1 y1 m)) := hide (Ex5.out.keep K6.out)
  have Ey6 : Hid (Elem W6 W5.heap.size (pA x1 y1 n) (pB x1 y1 n)) := hide ((Elem.new W5 (pA x1 y1 n) (pB x1 y1 n) 37).keep kk)
  clear Ea5 Ex5 G5 K6 kk
  have vx0 := ((Chg.refl nob W6).alloc (.cells #[.int .i64 (pA x1 y1 (m + n)), .int .i64 (pB x1 y1 (m + n))] 37)).look Ex6.out.c0
  have vx1 := ((Chg.refl nob W6).alloc (.cells #[.int .i64 (pA x1 y1 (m + n)), .int .i64 (pB x1 y1 (m + n))] 37)).look Ex6.out.c1
  have vy0 := ((Chg.refl nob W6).alloc (.cells #[.int .i64 (pA x1 y1 (m + n)), .int .i64 (pB x1 y1 (m + n))] 37)).look Ey6.out.c0
  have vy1 := ((Chg.refl nob W6).alloc (.cells #[.int .i64 (pA x1 y1 (m + n)), .int .i64 (pB x1 y1 (m + n))] 37)).look Ey6.out.c1
  go_wp2_with fail
  refine (extMul_pow _ _ _ _ _ m0 n0).mono ?_
  rintro e W7 ⟨rfl, kk⟩
  clear vx0 vx1 vy0 vy1
  have K7 : Hid (Chg nob W6 W7) := hide (((Chg.refl nob W6).alloc (.cells #[.int .i64 (pA x1 y1 (m + n)), .int .i64 (pB x1 y1 (m + n))] 37)).trans kk)
  have G7 : Hid (Chg nob w W7) := hide (G6.out.trans K7.out)
  have Ea7 : Hid (Elem W7 W1.heap.size (x1) (y1)) := hide (Ea6.out.keep K7.out)
  have Ex7 : Hid (Elem W7 W4.heap.size (pA x1 y1 m) (pB x1 y1 m)) := hide (Ex6.out.keep K7.out)
  have Ey7 : Hid (Elem W7 W5.heap.size (pA x1 y1 n) (pB x1 y1 n)) := hide (Ey6.out.keep K7.out)
  have Ez7 : Hid (Elem W7 W6.heap.size (pA x1 y1 (m + n)) (pB x1 y1 (m + n))) := hide ((Elem.new W6 (pA x1 y1 (m + n)) (pB x1 y1 (m + n)) 37).keep kk)
  clear Ea6 Ex6 Ey6 G6 K7 kk
  have vz0 := ((Chg.refl nob W7).alloc (.cells #[.int .i64 (pA x1 y1 (m + n)), .int .i64 (pB x1 y1 (m + n))] 37)).look Ez7.out.c0
  have vz1 := ((Chg.refl nob W7).alloc (.cells #[.int .i64 (pA x1 y1 (m + n)), .int .i64 (pB x1 y1 (m + n))] 37)).look Ez7.out.c1
  have va0 := ((Chg.refl nob W7).alloc (.cells #[.int .i64 (pA x1 y1 (m + n)), .int .i64 (pB x1 y1 (m + n))] 37)).look Ea7.out.c0
  have va1 := ((Chg.refl nob W7).alloc (.cells #[.int .i64 (pA x1 y1 (m + n)), .int .i64 (pB x1 y1 (m + n))] 37)).look Ea7.out.c1
  by_cases hz : x1 = 0 ∧ y1 = 0
  · obtain ⟨rfl, rfl⟩ := hz
    go_wp2_with fail
    refine (extInverse_zero _).mono ?_
    rintro e W8 ⟨rfl, kk⟩
    clear vz0 vz1 va0 va1
    have K8 : Hid (Chg nob W7 W8) := hide (((Chg.refl nob W7).alloc (.cells #[.int .i64 (pA 0 0 (m + n)), .int .i64 (pB 0 0 (m + n))] 37)).trans kk)
    have G8 : Hid (Chg nob w W8) := hide (G7.out.trans K8.out)
    have Ea8 : Hid (Elem W8 W1.heap.size (0) (0)) := hide (Ea7.out.keep K8.out)
    clear Ea7 Ex7 Ey7 Ez7 G7 K8 kk
    have va0 := ((Chg.refl nob W8).alloc (.cells #[.int .i64 (0), .int .i64 (0)] 37)).look Ea8.out.c0
    have va1 := ((Chg.refl nob W8).alloc (.cells #[.int .i64 (0), .int .i64 (0)] 37)).look Ea8.out.c1
    go_wp2
    go_ret
    exact ⟨rfl, (G8.out.alloc _).toBelow⟩
  · by_cases hA : x1 = 0
    · have hB : ¬ y1 = 0 := fun h => hz ⟨hA, h⟩
      clear hz
      subst hA
      go_wp2_with fail
      refine (extInverse_ok _ _ _ HA.out (fun h => hB h.2)).mono ?_
      rintro e W8 ⟨rfl, kk⟩
      clear vz0 vz1 va0 va1
      have K8 : Hid (Chg nob W7 W8) := hide (((Chg.refl nob W7).alloc (.cells #[.int .i64 (pA 0 y1 (m + n)), .int .i64 (pB 0 y1 (m + n))] 37)).trans kk)
      have G8 : Hid (Chg nob w W8) := hide (G7.out.trans K8.out)
      have Ea8 : Hid (Elem W8 W1.heap.size (0) (y1)) := hide (Ea7.out.keep K8.out)
      clear Ea7 Ex7 Ey7 Ez7 G7 K8 kk
      have va0 := ((Chg.refl nob W8).alloc (.cells #[.int .i64 (Fld.iA 0 y1), .int .i64 (Fld.iB 0 y1)] 37)).look Ea8.out.c0
      have va1 := ((Chg.refl nob W8).alloc (.cells #[.int .i64 (Fld.iA 0 y1), .int .i64 (Fld.iB 0 y1)] 37)).look Ea8.out.c1
      go_wp2_with fail
      refine (extMul_inv _ _ _ HA.out (fun h => hB h.2)).mono ?_
      rintro e W9 ⟨rfl, kk⟩
      clear va0 va1
      have K9 : Hid (Chg nob W8 W9) := hide (((Chg.refl nob W8).alloc (.cells #[.int .i64 (Fld.iA 0 y1), .int .i64 (Fld.iB 0 y1)] 37)).trans kk)
      have G9 : Hid (Chg nob w W9) := hide (G8.out.trans K9.out)
      clear Ea8 G8 K9 kk
      go_wp2
      go_region_held3 (fun w' => w'.cell? ⟨W9.heap.size, 0, none⟩ = some (.int .i64 1) ∧ w'.cell? ⟨W9.heap.size, 1, none⟩ = some (.int .i64 0)) (refine ⟨?_, ?_⟩ <;> go_simp) (first | (go_at_call 31; refine (one_any _).mono ?_; rintro e w' ⟨rfl, rfl⟩))
      all_goals go_wp2
      all_goals go_ret
      all_goals exact ⟨rfl, Chg.toBelow (by repeat (first | with_reducible exact G9.out | with_reducible refine Chg.alloc ?_ _ | with_reducible refine Chg.drewN ?_ _ | with_reducible refine Chg.drew ?_))⟩
    · clear hz
      go_wp2_with fail
      refine (extInverse_ok _ _ _ HA.out (fun h => hA h.1)).mono ?_
      rintro e W8 ⟨rfl, kk⟩
      clear vz0 vz1 va0 va1
      have K8 : Hid (Chg nob W7 W8) := hide (((Chg.refl nob W7).alloc (.cells #[.int .i64 (pA x1 y1 (m + n)), .int .i64 (pB x1 y1 (m + n))] 37)).trans kk)
      have G8 : Hid (Chg nob w W8) := hide (G7.out.trans K8.out)
      have Ea8 : Hid (Elem W8 W1.heap.size (x1) (y1)) := hide (Ea7.out.keep K8.out)
      clear Ea7 Ex7 Ey7 Ez7 G7 K8 kk
      have va0 := ((Chg.refl nob W8).alloc (.cells #[.int .i64 (Fld.iA x1 y1), .int .i64 (Fld.iB x1 y1)] 37)).look Ea8.out.c0
      have va1 := ((Chg.refl nob W8).alloc (.cells #[.int .i64 (Fld.iA x1 y1), .int .i64 (Fld.iB x1 y1)] 37)).look Ea8.out.c1
      go_wp2_with fail
      refine (extMul_inv _ _ _ HA.out (fun h => hA h.1)).mono ?_
      rintro e W9 ⟨rfl, kk⟩
      clear va0 va1
      have K9 : Hid (Chg nob W8 W9) := hide (((Chg.refl nob W8).alloc (.cells #[.int .i64 (Fld.iA x1 y1), .int .i64 (Fld.iB x1 y1)] 37)).trans kk)
      have G9 : Hid (Chg nob w W9) := hide (G8.out.trans K9.out)
      clear Ea8 G8 K9 kk
      go_wp2
      go_region_held3 (fun w' => w'.cell? ⟨W9.heap.size, 0, none⟩ = some (.int .i64 1) ∧ w'.cell? ⟨W9.heap.size, 1, none⟩ = some (.int .i64 0)) (refine ⟨?_, ?_⟩ <;> go_simp) (first | (go_at_call 31; refine (one_any _).mono ?_; rintro e w' ⟨rfl, rfl⟩))
      all_goals go_wp2
      all_goals go_ret
      all_goals exact ⟨rfl, Chg.toBelow (by repeat (first | with_reducible exact G9.out | with_reducible refine Chg.alloc ?_ _ | with_reducible refine Chg.drewN ?_ _ | with_reducible refine Chg.drew ?_))⟩

set_option maxRecDepth 100000 in
theorem lifted (os : Os) (started : os.Started) (H : Type) (enc : TypeId × Value → H) :
    ReturnsInHanded {} Try.checked os 7 .any (Rows.fnExtInverseSpec.pre6 enc Try.prog Try.f7 Rows.fnExtInverseRow.domain false) (Rows.fnExtInverseSpec.post enc Try.prog Try.f7 false true false false) := by
  refine returnsInHanded_of_change (C := Try.checked) own started (by kernel_rfl) Try.func7
    (ChangeSpec.witness6 (enc := enc) (C := Try.checked) false ⟨#[], #[.slice none 0 0, .slice none 0 0], []⟩ 8 (by kernel_rfl) (by kernel_rfl) (by kernel_rfl) (by kernel_rfl)) ?_
  intro W base args ds gs before hval0 hW hcnd _
  have hval : ∀ (j : Nat) t v, Try.f7.params[j]? = some t → args[j]? = some v → Value.okWide Try.prog W .any base t v := hval0
  have hW' := hW
  obtain ⟨p, q, hA0, hV, rfl, hfz, hnd⟩ := hW
  have hA : DataW.TrodAll enc Try.prog W 0 (fun _ => true) true Try.f7.params.toList args.toList ds p := hA0
  rw [Try.params7] at hA hval
  obtain ⟨v0, vs0, d0, ds0, p0, q0, hargs, rfl, rfl, h0, r0⟩ := trodAll_cons hA
  obtain ⟨v1, vs1, d1, ds1, p1, q1, rfl, rfl, rfl, h1, r1⟩ := trodAll_cons r0
  obtain ⟨rfl, rfl, rfl⟩ := trodAll_nil r1
  obtain rfl : args = #[v0, v1] := by cases args; simp_all
  obtain ⟨rfl, rfl⟩ := trodVars_none hV
  obtain ⟨a0, len0, cap0, rfl⟩ := okWide_slice Try.underlying22 (hval 0 22 v0 rfl rfl)
  have k0 := h0
  have lt0 : ∀ x ∈ p0, x.block < W.heap.size := by obtain ⟨m, hm⟩ := k0; exact DataW.trod_lt m _ _ _ hm
  obtain ⟨z0, w0⟩ : ∃ zs, IsRow .u8 W a0 len0 cap0 zs := by
    obtain ⟨fuel, hf⟩ := h0
    rcases open_ints Try.underlying22 Try.underlying5 (by kernel_rfl) hf with ⟨hcs, _⟩ | ⟨x, l, c, zs, hcs, _, hl, hm, hz, _, hcell, hwz⟩
    · simp [Value.cells] at hcs
      obtain ⟨rfl, rfl, rfl⟩ := hcs
      exact ⟨[], .inl ⟨rfl, rfl, rfl, rfl⟩⟩
    · simp [Value.cells] at hcs
      obtain ⟨rfl, rfl, rfl⟩ := hcs
      exact ⟨zs, .inr ⟨_, rfl, hl, hm, by simpa using hz, hcell, hwz⟩⟩
  obtain ⟨a1, len1, cap1, rfl⟩ := okWide_slice Try.underlying22 (hval 1 22 v1 rfl rfl)
  have k1 := h1
  have lt1 : ∀ x ∈ p1, x.block < W.heap.size := by obtain ⟨m, hm⟩ := k1; exact DataW.trod_lt m _ _ _ hm
  obtain ⟨z1, w1⟩ : ∃ zs, IsRow .u8 W a1 len1 cap1 zs := by
    obtain ⟨fuel, hf⟩ := h1
    rcases open_ints Try.underlying22 Try.underlying5 (by kernel_rfl) hf with ⟨hcs, _⟩ | ⟨x, l, c, zs, hcs, _, hl, hm, hz, _, hcell, hwz⟩
    · simp [Value.cells] at hcs
      obtain ⟨rfl, rfl, rfl⟩ := hcs
      exact ⟨[], .inl ⟨rfl, rfl, rfl, rfl⟩⟩
    · simp [Value.cells] at hcs
      obtain ⟨rfl, rfl, rfl⟩ := hcs
      exact ⟨zs, .inr ⟨_, rfl, hl, hm, by simpa using hz, hcell, hwz⟩⟩
  clear hA0 hval0
  refine (walk a0 len0 cap0 z0 a1 len1 cap1 z1 W w0 w1).mono fun e W' ⟨he, bel⟩ => ?_
  subst he
  exact ⟨_, rfl, _, _, _, [], _, [], hW', trodAll_mk1 (shut_bool Try.underlying4 _), (trodAll_cons_mk (Below.trod laidOut (by kernel_rfl) (of_decide_eq_true (by kernel_rfl)) k0 bel lt0) (trodAll_cons_mk (Below.trod laidOut (by kernel_rfl) (of_decide_eq_true (by kernel_rfl)) k1 bel lt1) trodAll_mk0)), rfl, bel.frame _, fun h => by cases h⟩

theorem over : Rows.fnExtInverseRow.holds Try.pinned (OpenSpec.ofChange Rows.fnExtInverseSpec) :=
  OpenClaim.holds_of_wide 7 Try.f7 rfl rfl rfl rfl rfl rfl rfl ⟨rfl, rfl, rfl, rfl, rfl⟩ rfl rfl rfl rfl rfl (by kernel_rfl) Try.func7 (by kernel_rfl)
    (of_decide_eq_true (by kernel_rfl)) (by unfold Func.isWrapper; first | (rw [if_pos (by decide +kernel)]; kernel_rfl) | (rw [if_neg (by decide +kernel)]; exact ⟨rfl, rfl⟩))
    (fun os started H enc _ => lifted os started H enc)

end Go.Proofs.Ytimpmiamfpnjaaa.fnExtInverse
namespace Go.Proofs.Ytimpmiamfpnjaaa
theorem FnExtInverse_holds : Rows.FnExtInverseSaid := fnExtInverse.over
#print axioms FnExtInverse_holds
end Go.Proofs.Ytimpmiamfpnjaaa
