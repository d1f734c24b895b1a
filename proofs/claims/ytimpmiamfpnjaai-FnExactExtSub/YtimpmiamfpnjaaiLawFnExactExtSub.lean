/- For all elements a and b: ExtSub answers as its model does, and changes nothing. No condition. -/
import Derived.Test.YtimpmiamfpnjaaiRows
import Derived.WalkKit
import Derived.ProofKit
import Derived.OpenShut
import Derived.Test.YtimpmiamfpnjaaiLawH
import Derived.ShutString
import Derived.ChangeOld
import Derived.Below
import Derived.Lib.SmallJoins
import Derived.Deep.SlicePairs
namespace Go.Proofs.Ytimpmiamfpnjaai.fnExactExtSub
open Go.ChangeShapes Go.WideShapes Go.ChangeAt Go.RowKit Go.Joins Go.Deep
set_option linter.unusedVariables false
set_option linter.unusedSimpArgs false

theorem own : ownKnob Try.prog.godebug = none := by kernel_rfl
theorem laidOut : laidOutB Try.prog = true := by kernel_rfl
theorem cellsE : Try.prog.cellsOf 33 = 2 := by kernel_rfl
theorem cellsI : Try.prog.cellsOf 3 = 1 := by kernel_rfl

set_option maxRecDepth 100000 in
set_option maxHeartbeats 4000000 in
theorem walk (a0 b0 : Int) (a1 b1 : Int) (w : World)  :
    Calls Try.prog 8 #[.agg #[.int .i64 a0, .int .i64 b0], .agg #[.int .i64 a1, .int .i64 b1]] w fun e w' => e = .returned (.bool true) ∧ Below w.heap.size w w' := by
  go_enter Try.func8, Try.ntmps8
  go_upto_region 1 with fail
  go_cut [5, 6] from 9 (fun p c W => ∃ g, p = .pointer (some ⟨g, 0, none⟩) ∧ c = .int .i64 (ebad a0 b0 a1 b1) ∧ Hid (Two w W a0 b0 a1 b1) ∧ Hid (Elem W g (eb a0 b0 a1 b1 ((a0 + 2130706433 - a1) % 2130706433)) (eb a0 b0 a1 b1 ((b0 + 2130706433 - b1) % 2130706433))))
  case first =>
    have HT := hide (Two.new w a0 b0 a1 b1 33)
    go_region_held3 (fun w' => w'.cell? ⟨w.heap.size, 0, none⟩ = some (.int .i64 a0) ∧ w'.cell? ⟨w.heap.size, 1, none⟩ = some (.int .i64 b0) ∧ w'.cell? ⟨w.heap.size + 1, 0, none⟩ = some (.int .i64 a1) ∧ w'.cell? ⟨w.heap.size + 1, 1, none⟩ = some (.int .i64 b1)) (exact Two.S (HT.out.keep (by repeat (first | with_reducible exact Chg.refl _ _ | with_reducible refine Chg.alloc ?_ _ | with_reducible refine Chg.drewN ?_ _ | with_reducible refine Chg.drew ?_ | with_reducible refine Chg.setCell ?_ (fun l => absurd l (by simp <;> omega)) _ | with_reducible refine Chg.trans ?_ (by assumption))))) (first | (go_at_call 20; refine (toExt_ex _ _ _).mono ?_; rintro e w' ⟨rfl, rfl⟩) | (go_at_call 25; refine (sExtSub_any _ _ _ _ _).mono ?_; rintro e w1 ⟨rfl, hk⟩; obtain ⟨hc, hf, hz⟩ := kcell hk _ (Nat.le_refl _)))
    all_goals
      go_wp2_with fail
      go_meet
      case rel => exact ⟨_, rfl, rfl, hide (HT.out.keep (by repeat (first | with_reducible exact Chg.refl _ _ | with_reducible refine Chg.alloc ?_ _ | with_reducible refine Chg.drewN ?_ _ | with_reducible refine Chg.drew ?_ | with_reducible refine Chg.setCell ?_ (fun l => absurd l (by simp <;> omega)) _ | with_reducible refine Chg.trans ?_ (by assumption)))), hide (by first | exact Elem.new _ _ _ _ | exact Elem.set (x := .int .i64 0) (y := .int .i64 0) (hk.look (by go_simp)) (hk.look (by go_simp)) _ _)⟩
  case rest =>
    obtain ⟨g, rfl, rfl, HT, HE⟩ := hcut
    have p0 := HT.out.c0
    have p1 := HT.out.c1
    have p2 := HT.out.c2
    have p3 := HT.out.c3
    go_upto_region 2 with fail
    go_cut [7, 8] from 9 (fun p c W => ∃ g', p = .pointer (some ⟨g', 0, none⟩) ∧ c = .int .i64 (ebad a0 b0 a1 b1) ∧ Hid (Two w W a0 b0 a1 b1) ∧ Hid (Elem W g (eb a0 b0 a1 b1 ((a0 + 2130706433 - a1) % 2130706433)) (eb a0 b0 a1 b1 ((b0 + 2130706433 - b1) % 2130706433))) ∧ Hid (Elem W g' (eb a0 b0 a1 b1 ((a0 + 2130706433 - a1) % 2130706433)) (eb a0 b0 a1 b1 ((b0 + 2130706433 - b1) % 2130706433))))
    case first =>
      have hzz := HT.out.size
      go_region_held3 (fun w' => w'.cell? ⟨w.heap.size, 0, none⟩ = some (.int .i64 a0) ∧ w'.cell? ⟨w.heap.size, 1, none⟩ = some (.int .i64 b0) ∧ w'.cell? ⟨w.heap.size + 1, 0, none⟩ = some (.int .i64 a1) ∧ w'.cell? ⟨w.heap.size + 1, 1, none⟩ = some (.int .i64 b1)) (exact Two.S (HT.out.keep (by repeat (first | with_reducible exact Chg.refl _ _ | with_reducible refine Chg.alloc ?_ _ | with_reducible refine Chg.drewN ?_ _ | with_reducible refine Chg.drew ?_ | with_reducible refine Chg.setCell ?_ (fun l => absurd l (by simp <;> omega)) _ | with_reducible refine Chg.trans ?_ (by assumption))))) (first | (go_at_call 20; refine (toExt_ex _ _ _).mono ?_; rintro e w' ⟨rfl, rfl⟩) | (go_at_call 26; refine (extSub_any _ _ _ _ _).mono ?_; rintro e w1 ⟨rfl, hk⟩; obtain ⟨hc, hf, hz⟩ := kcell hk _ (Nat.le_refl _)))
      all_goals
        go_wp2_with fail
        go_meet
        case rel => exact ⟨_, rfl, rfl, hide (HT.out.keep (by repeat (first | with_reducible exact Chg.refl _ _ | with_reducible refine Chg.alloc ?_ _ | with_reducible refine Chg.drewN ?_ _ | with_reducible refine Chg.drew ?_ | with_reducible refine Chg.setCell ?_ (fun l => absurd l (by simp <;> omega)) _ | with_reducible refine Chg.trans ?_ (by assumption)))), hide (HE.out.keep (by repeat (first | with_reducible exact Chg.refl _ _ | with_reducible refine Chg.alloc ?_ _ | with_reducible refine Chg.drewN ?_ _ | with_reducible refine Chg.drew ?_ | with_reducible refine Chg.setCell ?_ (fun l => absurd l (by simp <;> omega)) _ | with_reducible refine Chg.trans ?_ (by assumption)))), hide (by first | exact Elem.new _ _ _ _ | exact Elem.set (x := .int .i64 0) (y := .int .i64 0) (hk.look (by go_simp)) (hk.look (by go_simp)) _ _)⟩
    case rest =>
      obtain ⟨g', rfl, rfl, HT2, HE2, HE3⟩ := hcut
      have r0 := HE2.out.c0
      have r1 := HE2.out.c1
      have s0 := HE3.out.c0
      have s1 := HE3.out.c1
      have HC := hide HT2.out.chg
      go_wp2_with (go_at_call 24; refine (eqExt_any _ _ _).mono ?_; rintro e w2 ⟨rfl, hk2⟩)
      go_ret
      exact ⟨rfl, (HC.out.trans (by assumption)).toBelow⟩

set_option maxRecDepth 100000 in
theorem lifted (os : Os) (started : os.Started) (H : Type) (enc : TypeId × Value → H) :
    ReturnsInHanded {} Try.checked os 8 .any (Rows.fnExactExtSubSpec.pre6 enc Try.prog Try.f8 Rows.fnExactExtSubRow.domain false) (Rows.fnExactExtSubSpec.post enc Try.prog Try.f8 false true false false) := by
  refine returnsInHanded_of_change (C := Try.checked) own started (by kernel_rfl) Try.func8
    (ChangeSpec.witness6 (enc := enc) (C := Try.checked) false ⟨#[], #[.agg #[.int .i64 0, .int .i64 0], .agg #[.int .i64 0, .int .i64 0]], []⟩ 8 (by kernel_rfl) (by kernel_rfl) (by kernel_rfl) (by kernel_rfl)) ?_
  intro W base args ds gs before hval0 hW hcnd _
  have hval : ∀ (j : Nat) t v, Try.f8.params[j]? = some t → args[j]? = some v → Value.okWide Try.prog W .any base t v := hval0
  have hW' := hW
  obtain ⟨p, q, hA0, hV, rfl, hfz, hnd⟩ := hW
  have hA : DataW.TrodAll enc Try.prog W 0 (fun _ => true) true Try.f8.params.toList args.toList ds p := hA0
  rw [Try.params8] at hA hval
  obtain ⟨v0, vs0, d0, ds0, p0, q0, hargs, rfl, rfl, h0, r0⟩ := trodAll_cons hA
  obtain ⟨v1, vs1, d1, ds1, p1, q1, rfl, rfl, rfl, h1, r1⟩ := trodAll_cons r0
  obtain ⟨rfl, rfl, rfl⟩ := trodAll_nil r1
  obtain rfl : args = #[v0, v1] := by cases args; simp_all
  obtain ⟨rfl, rfl⟩ := trodVars_none hV
  have k0 := h0
  have lt0 : ∀ x ∈ p0, x.block < W.heap.size := by obtain ⟨m, hm⟩ := k0; exact DataW.trod_lt m _ _ _ hm
  obtain ⟨x0, z0, y0, u0, m0, rfl, rfl, rfl, hy0, hu0⟩ := open_agg2 Try.underlying33 (by kernel_rfl) cellsE (hval 0 33 v0 rfl rfl) h0
  obtain ⟨a0, e0, rfl, wa0⟩ := DataW.trod_int Try.underlying3 hy0
  obtain ⟨b0, e'0, rfl, wb0⟩ := DataW.trod_int Try.underlying3 hu0
  simp at e0 e'0
  subst e0 e'0
  have k1 := h1
  have lt1 : ∀ x ∈ p1, x.block < W.heap.size := by obtain ⟨m, hm⟩ := k1; exact DataW.trod_lt m _ _ _ hm
  obtain ⟨x1, z1, y1, u1, m1, rfl, rfl, rfl, hy1, hu1⟩ := open_agg2 Try.underlying33 (by kernel_rfl) cellsE (hval 1 33 v1 rfl rfl) h1
  obtain ⟨a1, e1, rfl, wa1⟩ := DataW.trod_int Try.underlying3 hy1
  obtain ⟨b1, e'1, rfl, wb1⟩ := DataW.trod_int Try.underlying3 hu1
  simp at e1 e'1
  subst e1 e'1
  clear hA0 hval0
  refine (walk a0 b0 a1 b1 W).mono fun e W' ⟨he, bel⟩ => ?_
  subst he
  exact ⟨_, rfl, _, _, _, [], _, [], hW', trodAll_mk1 (shut_bool Try.underlying4 _), (trodAll_cons_mk (Below.trod laidOut (by kernel_rfl) (of_decide_eq_true (by kernel_rfl)) k0 bel lt0) (trodAll_cons_mk (Below.trod laidOut (by kernel_rfl) (of_decide_eq_true (by kernel_rfl)) k1 bel lt1) trodAll_mk0)), rfl, bel.frame _, fun h => by cases h⟩

theorem over : Rows.fnExactExtSubRow.holds Try.pinned (OpenSpec.ofChange Rows.fnExactExtSubSpec) :=
  OpenClaim.holds_of_wide 8 Try.f8 rfl rfl rfl rfl rfl rfl rfl ⟨rfl, rfl, rfl, rfl, rfl⟩ rfl rfl rfl rfl rfl (by kernel_rfl) Try.func8 (by kernel_rfl)
    (of_decide_eq_true (by kernel_rfl)) (by unfold Func.isWrapper; first | (rw [if_pos (by decide +kernel)]; kernel_rfl) | (rw [if_neg (by decide +kernel)]; exact ⟨rfl, rfl⟩))
    (fun os started H enc _ => lifted os started H enc)

end Go.Proofs.Ytimpmiamfpnjaai.fnExactExtSub
namespace Go.Proofs.Ytimpmiamfpnjaai
theorem FnExactExtSub_holds : Rows.FnExactExtSubSaid := fnExactExtSub.over
#print axioms FnExactExtSub_holds
end Go.Proofs.Ytimpmiamfpnjaai
