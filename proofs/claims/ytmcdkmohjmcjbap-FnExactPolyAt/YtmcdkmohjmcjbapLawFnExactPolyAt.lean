/- For every slice of elements and every element: PolyAt answers as its model does, and writes into no argument. No condition. -/
import Derived.Test.YtmcdkmohjmcjbapRows
import Derived.WalkKit
import Derived.ProofKit
import Derived.OpenShut
import Derived.Test.YtmcdkmohjmcjbapLawN
import Derived.Test.YtmcdkmohjmcjbapLawH
import Derived.Test.YtmcdkmohjmcjbapPolX
import Derived.Test.YtmcdkmohjmcjbapNttH
import Derived.Test.YtmcdkmohjmcjbapStepL
import Derived.ShutString
import Derived.ChangeOld
import Derived.Below
import Derived.Lib.SmallJoins
import Derived.Deep.SlicePairs
namespace Go.Proofs.Ytmcdkmohjmcjbap.fnExactPolyAt
open Go.ChangeShapes Go.WideShapes Go.ChangeAt Go.RowKit Go.Joins Go.Deep
set_option linter.unusedVariables false
set_option linter.unusedSimpArgs false

theorem own : ownKnob Try.prog.godebug = none := by kernel_rfl
theorem laidOut : laidOutB Try.prog = true := by kernel_rfl
theorem cellsE : Try.prog.cellsOf 36 = 2 := by kernel_rfl
theorem cellsI : Try.prog.cellsOf 3 = 1 := by kernel_rfl

set_option maxRecDepth 100000 in
set_option maxHeartbeats 4000000 in
theorem walk (c0 : Option Addr) (len0 cap0 : Nat) (f0 g0 : Nat → Int) (a1 b1 : Int) (w : World) (w0 : IsPairs w c0 len0 cap0 f0 g0) :
    Calls Try.prog 7 #[.slice c0 len0 cap0, .agg #[.int .i64 a1, .int .i64 b1]] w fun e w' => e = .returned (.bool true) ∧ Below w.heap.size w w' := by
  obtain ⟨hP0, hl0⟩ := pairs_of w0
  have HP0 := hide hP0
  clear w0 hP0
  by_cases hm : 1048576 < len0
  · go_enter Try.func7, Try.ntmps7
    go_wp2_with (go_at_call 8; refine (szExtS_no _ _ _ _ _ (by omega) (by omega) (by omega)).mono ?_; rintro e w' ⟨rfl, rfl⟩)
    go_ret
    exact ⟨rfl, ((Chg.refl nob w).alloc _).toBelow⟩
  have hp : ¬ (1048576 : Int) - (len0 : Int) < 0 := by omega
  obtain ⟨C, hC⟩ : ∃ C, C = pac f0 g0 len0 a1 b1 := ⟨_, rfl⟩
  obtain ⟨X, hX⟩ : ∃ X, X = pav f0 g0 len0 a1 b1 := ⟨_, rfl⟩
  have HS := hide (fun (c : Option Addr) (w' : World) (h : Hid (PairV w' c len0 f0 g0)) => sPolyX_any c len0 len0 f0 g0 a1 b1 w' h (by omega))
  have HI := hide (fun (c : Option Addr) (w' : World) (h : Hid (PairV w' c len0 f0 g0)) => polyX_any c len0 len0 f0 g0 a1 b1 w' h (by omega))
  rw [← hC, ← hX] at HS HI
  clear hC hX
  have z0 : (w.alloc (.cells #[.int .i64 a1, .int .i64 b1] 36)).cell? ⟨w.heap.size, 0, none⟩ = some (.int .i64 a1) := by go_simp
  have z1 : (w.alloc (.cells #[.int .i64 a1, .int .i64 b1] 36)).cell? ⟨w.heap.size, 1, none⟩ = some (.int .i64 b1) := by go_simp
  have Z0 := hide z0
  have Z1 := hide z1
  have HPU := hide (HP0.out.keep ((Chg.refl nob w).alloc (.cells #[.int .i64 a1, .int .i64 b1] 36)))
  clear z0 z1
  go_enter Try.func7, Try.ntmps7
  go_wp2_with fail
  refine (szExtS_ok _ _ _ _ _ (by omega) (by omega)).mono ?_
  rintro e w' ⟨rfl, rfl⟩
  go_upto_region 5 with fail
  go_cut [6, 7] from 11 (fun p c W => ∃ gg : Nat, p = .pointer (some ⟨gg, 0, none⟩) ∧ c = .int .i64 C ∧ Hid (ElB W gg X) ∧ Hid (Chg nob (w.alloc (.cells #[.int .i64 a1, .int .i64 b1] 36)) W))
  case first =>
    have z0 := Z0.out
    have z1 := Z1.out
    have KW := hide ((Chg.refl nob (w.alloc (.cells #[.int .i64 a1, .int .i64 b1] 36))).drew1)
    have SA := hide (fun (WW : World) (kW : Chg nob (w.alloc (.cells #[.int .i64 a1, .int .i64 b1] 36)) WW) => (show (WW.cell? ⟨w.heap.size, 0, none⟩ = some (.int .i64 a1) ∧ WW.cell? ⟨w.heap.size, 1, none⟩ = some (.int .i64 b1)) from ⟨kW.see z0, kW.see z1⟩))
    refine wp_region_held_drew (S := fun w' => w'.cell? ⟨w.heap.size, 0, none⟩ = some (.int .i64 a1) ∧ w'.cell? ⟨w.heap.size, 1, none⟩ = some (.int .i64 b1)) (by kernel_rfl) ⟨z0, z1⟩ (fun hHeld => ?_)
    refine wpAnyH_take (i := 0) (v := ?_) rfl (by kernel_rfl) (by kernel_rfl) (by kernel_rfl) (fun _ _ _ h => h) (Or.inl ⟨by rfl, ?_⟩) (by assumption) ?_
    rotate_left 1
    · (intro w' hSw; (try dsimp only at hSw); go_simp; try with_reducible rfl)
    try simp only [Act.put, List.setIfInBounds_toArray, List.set_cons_zero, List.set_cons_succ, List.getElem_toArray, List.getElem_cons_zero, List.getElem_cons_succ]
    refine wpAnyH_take (i := 2) (v := ?_) rfl (by kernel_rfl) (by kernel_rfl) (by kernel_rfl) (fun _ _ _ h => h) (Or.inl ⟨by rfl, ?_⟩) (by assumption) ?_
    rotate_left 1
    · (intro w' hSw; (try dsimp only at hSw); go_simp; try with_reducible rfl)
    try simp only [Act.put, List.setIfInBounds_toArray, List.set_cons_zero, List.set_cons_succ, List.getElem_toArray, List.getElem_cons_zero, List.getElem_cons_succ]
    refine wpAnyH_ready (rs := [1, 8]) (by kernel_rfl) (by simp) ?_
    refine AllReadyH.cons rfl (fun K hK => ?_) ?_
    · refine stepL_callN 10 #[.tmp 17] #[22] (by rfl) (by rfl) #[.slice c0 len0 cap0] (by simp only [List.map_toArray, List.map_cons, List.map_nil] <;> rfl) (run_go Try.func10 (by kernel_rfl) (by kernel_rfl) _ _) (toExtS_ex c0 len0 cap0 f0 g0 _ (hide (HPU.out.keep KW.out)) (by omega)) ?_
      rintro e U1 ⟨g1, he, hg1, rr, kk⟩
      have R1 := hide rr
      clear rr
      refine ⟨_, he, ?_⟩
      replace KW := hide (KW.out.trans kk)
      refine hK.out _ _ (SA.out _ KW.out) (fun hHeld => ?_)
      clear hK K
      try simp only [Act.put, List.setIfInBounds_toArray, List.set_cons_zero, List.set_cons_succ, List.getElem_toArray, List.getElem_cons_zero, List.getElem_cons_succ]
      clear he kk
      refine wpAnyH_ready (rs := [3, 8]) (by kernel_rfl) (by simp) ?_
      refine AllReadyH.cons rfl (fun K hK => ?_) ?_
      · refine stepL_callN 20 #[.tmp 19] #[36] (by rfl) (by rfl) #[.agg #[.int .i64 a1, .int .i64 b1]] (by simp only [List.map_toArray, List.map_cons, List.map_nil] <;> rfl) (run_go Try.func20 (by kernel_rfl) (by kernel_rfl) _ _) (toExt_any a1 b1 _) ?_
        rintro e U2 ⟨he, kk⟩
        replace R1 := hide (rowIs_keep R1.out kk)
        refine ⟨_, he, ?_⟩
        replace KW := hide (KW.out.trans kk)
        refine hK.out _ _ (SA.out _ KW.out) (fun hHeld => ?_)
        clear hK K
        try simp only [Act.put, List.setIfInBounds_toArray, List.set_cons_zero, List.set_cons_succ, List.getElem_toArray, List.getElem_cons_zero, List.getElem_cons_succ]
        clear he kk
        refine wpAnyH_ready (rs := [4, 8]) (by kernel_rfl) (by simp) ?_
        refine AllReadyH.cons rfl (fun K hK => ?_) ?_
        · refine stepL_callN 23 #[.tmp 18, .tmp 20] #[24, 37] (by rfl) (by rfl) #[.slice (some ⟨g1, 0, none⟩) len0 len0, .agg #[.int .i64 a1, .int .i64 b1]] (by simp only [List.map_toArray, List.map_cons, List.map_nil] <;> rfl) (run_go Try.func23 (by kernel_rfl) (by kernel_rfl) _ _) (HS.out _ _ (hide (PairV.of_row R1.out (Nat.le_refl _)))) ?_
          rintro e U3 ⟨he, kk⟩
          clear R1
          refine ⟨_, he, ?_⟩
          replace KW := hide (KW.out.trans kk)
          refine hK.out _ _ (SA.out _ KW.out) (fun hHeld => ?_)
          clear hK K
          try simp only [Act.put, List.setIfInBounds_toArray, List.set_cons_zero, List.set_cons_succ, List.getElem_toArray, List.getElem_cons_zero, List.getElem_cons_succ]
          clear he kk
          refine wpAnyH_take (i := 5) (v := ?_) rfl (by kernel_rfl) (by kernel_rfl) (by kernel_rfl) (fun _ _ _ h => h) (Or.inl ⟨by rfl, ?_⟩) (by assumption) ?_
          rotate_left 1
          · (intro w' hSw; (try dsimp only at hSw); go_simp; try with_reducible rfl)
          try simp only [Act.put, List.setIfInBounds_toArray, List.set_cons_zero, List.set_cons_succ, List.getElem_toArray, List.getElem_cons_zero, List.getElem_cons_succ]
          refine wpAnyH_take (i := 6) (v := ?_) rfl (by kernel_rfl) (by kernel_rfl) (by kernel_rfl) (fun _ _ _ h => h) (Or.inl ⟨by rfl, ?_⟩) (by assumption) ?_
          rotate_left 1
          · (intro w' hSw; (try dsimp only at hSw); go_simp; try with_reducible rfl)
          try simp only [Act.put, List.setIfInBounds_toArray, List.set_cons_zero, List.set_cons_succ, List.getElem_toArray, List.getElem_cons_zero, List.getElem_cons_succ]
          refine wpAnyH_take (i := 7) (v := ?_) rfl (by kernel_rfl) (by kernel_rfl) (by kernel_rfl) (fun _ _ _ h => h) (Or.inl ⟨by rfl, ?_⟩) (by assumption) ?_
          rotate_left 1
          · (intro w' hSw; (try dsimp only at hSw); go_simp; try with_reducible rfl)
          try simp only [Act.put, List.setIfInBounds_toArray, List.set_cons_zero, List.set_cons_succ, List.getElem_toArray, List.getElem_cons_zero, List.getElem_cons_succ]
          refine wpAnyH_ready (rs := [8]) (by kernel_rfl) (by simp) ?_
          refine AllReadyH.cons rfl (fun K hK => ?_) AllReadyH.nil
          simp only [List.getElem_toArray, List.getElem_cons_zero, List.getElem_cons_succ]
          go_simp
          have E7 : Hid (ElB (World.alloc U3 (.cells #[.int .i64 0, .int .i64 0] 37)) U3.heap.size El.zr) := hide (ElB.zero U3)
          have hgl : (w.alloc (.cells #[.int .i64 a1, .int .i64 b1] 36)).heap.size ≤ U3.heap.size := KW.out.size
          replace KW : Hid (Chg nob (w.alloc (.cells #[.int .i64 a1, .int .i64 b1] 36)) (World.alloc U3 (.cells #[.int .i64 0, .int .i64 0] 37))) := hide (KW.out.alloc _)
          generalize hUA : (World.alloc U3 (.cells #[.int .i64 0, .int .i64 0] 37)) = UA at E7 KW ⊢
          clear hUA
          generalize hgA : U3.heap.size = gA at E7 hgl ⊢
          clear hgA
          refine hK.out _ _ (SA.out _ KW.out) (fun hHeld => ?_)
          clear hK K
          try simp only [Act.put, List.setIfInBounds_toArray, List.set_cons_zero, List.set_cons_succ, List.getElem_toArray, List.getElem_cons_zero, List.getElem_cons_succ]
          refine wpAnyH_ready (rs := [9]) (by kernel_rfl) (by simp) ?_
          refine AllReadyH.cons rfl (fun K hK => ?_) AllReadyH.nil
          have y0 := E7.out.c0
          have y1 := E7.out.c1
          have f0 := E7.out.fz 0
          have f1 := E7.out.fz 1
          have l7 := E7.out.lt
          have hwg : w.heap.size ≠ gA := by have hq := hgl; simp at hq; omega
          simp only [List.getElem_toArray, List.getElem_cons_zero, List.getElem_cons_succ]
          go_simp
          refine hK.out _ _ ⟨look_two hwg (SA.out _ KW.out).1 0 1 _ _, look_two hwg (SA.out _ KW.out).2 0 1 _ _⟩ (fun hHeld => ?_)
          clear hK K
          try simp only [Act.put, List.setIfInBounds_toArray, List.set_cons_zero, List.set_cons_succ, List.getElem_toArray, List.getElem_cons_zero, List.getElem_cons_succ]
          clear y0 y1 f0 f1 l7
          refine wpAnyH_take (i := 10) (v := ?_) rfl (by kernel_rfl) (by kernel_rfl) (by kernel_rfl) (fun _ _ _ h => h) (Or.inl ⟨by rfl, ?_⟩) (by assumption) ?_
          rotate_left 1
          · (intro w' hSw; (try dsimp only at hSw); go_simp; try with_reducible rfl)
          try simp only [Act.put, List.setIfInBounds_toArray, List.set_cons_zero, List.set_cons_succ, List.getElem_toArray, List.getElem_cons_zero, List.getElem_cons_succ]
          refine wpAnyH_done (by kernel_rfl) ?_ _
          have E8 := hide (E7.out.set X)
          have G8 := hide (chg2_at KW.out gA (fun l => absurd l (by first | omega | (simp; done) | (simp at hgl ⊢; omega))) 0 1 (.int .i64 X.v.1) (.int .i64 X.v.2))
          go_wp2_with fail
          go_meet
          case rel => exact ⟨_, rfl, rfl, E8, G8⟩
        · refine AllReadyH.cons rfl (fun K hK => ?_) AllReadyH.nil
          simp only [List.getElem_toArray, List.getElem_cons_zero, List.getElem_cons_succ]
          go_simp
          have E7 : Hid (ElB (World.alloc U2 (.cells #[.int .i64 0, .int .i64 0] 37)) U2.heap.size El.zr) := hide (ElB.zero U2)
          have R1' := hide (rowIs_keep R1.out ((Chg.refl nob U2).alloc (.cells #[.int .i64 0, .int .i64 0] 37)))
          clear R1
          have R1 := hide R1'.out
          clear R1'
          have hgl : (w.alloc (.cells #[.int .i64 a1, .int .i64 b1] 36)).heap.size ≤ U2.heap.size := KW.out.size
          replace KW : Hid (Chg nob (w.alloc (.cells #[.int .i64 a1, .int .i64 b1] 36)) (World.alloc U2 (.cells #[.int .i64 0, .int .i64 0] 37))) := hide (KW.out.alloc _)
          generalize hUA : (World.alloc U2 (.cells #[.int .i64 0, .int .i64 0] 37)) = UA at E7 KW R1 ⊢
          clear hUA
          generalize hgA : U2.heap.size = gA at E7 hgl ⊢
          clear hgA
          refine hK.out _ _ (SA.out _ KW.out) (fun hHeld => ?_)
          clear hK K
          try simp only [Act.put, List.setIfInBounds_toArray, List.set_cons_zero, List.set_cons_succ, List.getElem_toArray, List.getElem_cons_zero, List.getElem_cons_succ]
          refine wpAnyH_ready (rs := [4]) (by kernel_rfl) (by simp) ?_
          refine AllReadyH.cons rfl (fun K hK => ?_) AllReadyH.nil
          refine stepL_callN 23 #[.tmp 18, .tmp 20] #[24, 37] (by rfl) (by rfl) #[.slice (some ⟨g1, 0, none⟩) len0 len0, .agg #[.int .i64 a1, .int .i64 b1]] (by simp only [List.map_toArray, List.map_cons, List.map_nil] <;> rfl) (run_go Try.func23 (by kernel_rfl) (by kernel_rfl) _ _) (HS.out _ _ (hide (PairV.of_row R1.out (Nat.le_refl _)))) ?_
          rintro e U3 ⟨he, kk⟩
          clear R1
          replace E7 := hide (E7.out.keep kk)
          refine ⟨_, he, ?_⟩
          replace KW := hide (KW.out.trans kk)
          refine hK.out _ _ (SA.out _ KW.out) (fun hHeld => ?_)
          clear hK K
          try simp only [Act.put, List.setIfInBounds_toArray, List.set_cons_zero, List.set_cons_succ, List.getElem_toArray, List.getElem_cons_zero, List.getElem_cons_succ]
          clear he kk
          refine wpAnyH_take (i := 5) (v := ?_) rfl (by kernel_rfl) (by kernel_rfl) (by kernel_rfl) (fun _ _ _ h => h) (Or.inl ⟨by rfl, ?_⟩) (by assumption) ?_
          rotate_left 1
          · (intro w' hSw; (try dsimp only at hSw); go_simp; try with_reducible rfl)
          try simp only [Act.put, List.setIfInBounds_toArray, List.set_cons_zero, List.set_cons_succ, List.getElem_toArray, List.getElem_cons_zero, List.getElem_cons_succ]
          refine wpAnyH_take (i := 6) (v := ?_) rfl (by kernel_rfl) (by kernel_rfl) (by kernel_rfl) (fun _ _ _ h => h) (Or.inl ⟨by rfl, ?_⟩) (by assumption) ?_
          rotate_left 1
          · (intro w' hSw; (try dsimp only at hSw); go_simp; try with_reducible rfl)
          try simp only [Act.put, List.setIfInBounds_toArray, List.set_cons_zero, List.set_cons_succ, List.getElem_toArray, List.getElem_cons_zero, List.getElem_cons_succ]
          refine wpAnyH_take (i := 7) (v := ?_) rfl (by kernel_rfl) (by kernel_rfl) (by kernel_rfl) (fun _ _ _ h => h) (Or.inl ⟨by rfl, ?_⟩) (by assumption) ?_
          rotate_left 1
          · (intro w' hSw; (try dsimp only at hSw); go_simp; try with_reducible rfl)
          try simp only [Act.put, List.setIfInBounds_toArray, List.set_cons_zero, List.set_cons_succ, List.getElem_toArray, List.getElem_cons_zero, List.getElem_cons_succ]
          refine wpAnyH_ready (rs := [9]) (by kernel_rfl) (by simp) ?_
          refine AllReadyH.cons rfl (fun K hK => ?_) AllReadyH.nil
          have y0 := E7.out.c0
          have y1 := E7.out.c1
          have f0 := E7.out.fz 0
          have f1 := E7.out.fz 1
          have l7 := E7.out.lt
          have hwg : w.heap.size ≠ gA := by have hq := hgl; simp at hq; omega
          simp only [List.getElem_toArray, List.getElem_cons_zero, List.getElem_cons_succ]
          go_simp
          refine hK.out _ _ ⟨look_two hwg (SA.out _ KW.out).1 0 1 _ _, look_two hwg (SA.out _ KW.out).2 0 1 _ _⟩ (fun hHeld => ?_)
          clear hK K
          try simp only [Act.put, List.setIfInBounds_toArray, List.set_cons_zero, List.set_cons_succ, List.getElem_toArray, List.getElem_cons_zero, List.getElem_cons_succ]
          clear y0 y1 f0 f1 l7
          refine wpAnyH_take (i := 10) (v := ?_) rfl (by kernel_rfl) (by kernel_rfl) (by kernel_rfl) (fun _ _ _ h => h) (Or.inl ⟨by rfl, ?_⟩) (by assumption) ?_
          rotate_left 1
          · (intro w' hSw; (try dsimp only at hSw); go_simp; try with_reducible rfl)
          try simp only [Act.put, List.setIfInBounds_toArray, List.set_cons_zero, List.set_cons_succ, List.getElem_toArray, List.getElem_cons_zero, List.getElem_cons_succ]
          refine wpAnyH_done (by kernel_rfl) ?_ _
          have E8 := hide (E7.out.set X)
          have G8 := hide (chg2_at KW.out gA (fun l => absurd l (by first | omega | (simp; done) | (simp at hgl ⊢; omega))) 0 1 (.int .i64 X.v.1) (.int .i64 X.v.2))
          go_wp2_with fail
          go_meet
          case rel => exact ⟨_, rfl, rfl, E8, G8⟩
      · refine AllReadyH.cons rfl (fun K hK => ?_) AllReadyH.nil
        simp only [List.getElem_toArray, List.getElem_cons_zero, List.getElem_cons_succ]
        go_simp
        have E7 : Hid (ElB (World.alloc U1 (.cells #[.int .i64 0, .int .i64 0] 37)) U1.heap.size El.zr) := hide (ElB.zero U1)
        have R1' := hide (rowIs_keep R1.out ((Chg.refl nob U1).alloc (.cells #[.int .i64 0, .int .i64 0] 37)))
        clear R1
        have R1 := hide R1'.out
        clear R1'
        have hgl : (w.alloc (.cells #[.int .i64 a1, .int .i64 b1] 36)).heap.size ≤ U1.heap.size := KW.out.size
        replace KW : Hid (Chg nob (w.alloc (.cells #[.int .i64 a1, .int .i64 b1] 36)) (World.alloc U1 (.cells #[.int .i64 0, .int .i64 0] 37))) := hide (KW.out.alloc _)
        generalize hUA : (World.alloc U1 (.cells #[.int .i64 0, .int .i64 0] 37)) = UA at E7 KW R1 ⊢
        clear hUA
        generalize hgA : U1.heap.size = gA at E7 hgl ⊢
        clear hgA
        refine hK.out _ _ (SA.out _ KW.out) (fun hHeld => ?_)
        clear hK K
        try simp only [Act.put, List.setIfInBounds_toArray, List.set_cons_zero, List.set_cons_succ, List.getElem_toArray, List.getElem_cons_zero, List.getElem_cons_succ]
        refine wpAnyH_ready (rs := [3]) (by kernel_rfl) (by simp) ?_
        refine AllReadyH.cons rfl (fun K hK => ?_) AllReadyH.nil
        refine stepL_callN 20 #[.tmp 19] #[36] (by rfl) (by rfl) #[.agg #[.int .i64 a1, .int .i64 b1]] (by simp only [List.map_toArray, List.map_cons, List.map_nil] <;> rfl) (run_go Try.func20 (by kernel_rfl) (by kernel_rfl) _ _) (toExt_any a1 b1 _) ?_
        rintro e U2 ⟨he, kk⟩
        replace R1 := hide (rowIs_keep R1.out kk)
        replace E7 := hide (E7.out.keep kk)
        refine ⟨_, he, ?_⟩
        replace KW := hide (KW.out.trans kk)
        refine hK.out _ _ (SA.out _ KW.out) (fun hHeld => ?_)
        clear hK K
        try simp only [Act.put, List.setIfInBounds_toArray, List.set_cons_zero, List.set_cons_succ, List.getElem_toArray, List.getElem_cons_zero, List.getElem_cons_succ]
        clear he kk
        refine wpAnyH_ready (rs := [4]) (by kernel_rfl) (by simp) ?_
        refine AllReadyH.cons rfl (fun K hK => ?_) AllReadyH.nil
        refine stepL_callN 23 #[.tmp 18, .tmp 20] #[24, 37] (by rfl) (by rfl) #[.slice (some ⟨g1, 0, none⟩) len0 len0, .agg #[.int .i64 a1, .int .i64 b1]] (by simp only [List.map_toArray, List.map_cons, List.map_nil] <;> rfl) (run_go Try.func23 (by kernel_rfl) (by kernel_rfl) _ _) (HS.out _ _ (hide (PairV.of_row R1.out (Nat.le_refl _)))) ?_
        rintro e U3 ⟨he, kk⟩
        clear R1
        replace E7 := hide (E7.out.keep kk)
        refine ⟨_, he, ?_⟩
        replace KW := hide (KW.out.trans kk)
        refine hK.out _ _ (SA.out _ KW.out) (fun hHeld => ?_)
        clear hK K
        try simp only [Act.put, List.setIfInBounds_toArray, List.set_cons_zero, List.set_cons_succ, List.getElem_toArray, List.getElem_cons_zero, List.getElem_cons_succ]
        clear he kk
        refine wpAnyH_take (i := 5) (v := ?_) rfl (by kernel_rfl) (by kernel_rfl) (by kernel_rfl) (fun _ _ _ h => h) (Or.inl ⟨by rfl, ?_⟩) (by assumption) ?_
        rotate_left 1
        · (intro w' hSw; (try dsimp only at hSw); go_simp; try with_reducible rfl)
        try simp only [Act.put, List.setIfInBounds_toArray, List.set_cons_zero, List.set_cons_succ, List.getElem_toArray, List.getElem_cons_zero, List.getElem_cons_succ]
        refine wpAnyH_take (i := 6) (v := ?_) rfl (by kernel_rfl) (by kernel_rfl) (by kernel_rfl) (fun _ _ _ h => h) (Or.inl ⟨by rfl, ?_⟩) (by assumption) ?_
        rotate_left 1
        · (intro w' hSw; (try dsimp only at hSw); go_simp; try with_reducible rfl)
        try simp only [Act.put, List.setIfInBounds_toArray, List.set_cons_zero, List.set_cons_succ, List.getElem_toArray, List.getElem_cons_zero, List.getElem_cons_succ]
        refine wpAnyH_take (i := 7) (v := ?_) rfl (by kernel_rfl) (by kernel_rfl) (by kernel_rfl) (fun _ _ _ h => h) (Or.inl ⟨by rfl, ?_⟩) (by assumption) ?_
        rotate_left 1
        · (intro w' hSw; (try dsimp only at hSw); go_simp; try with_reducible rfl)
        try simp only [Act.put, List.setIfInBounds_toArray, List.set_cons_zero, List.set_cons_succ, List.getElem_toArray, List.getElem_cons_zero, List.getElem_cons_succ]
        refine wpAnyH_ready (rs := [9]) (by kernel_rfl) (by simp) ?_
        refine AllReadyH.cons rfl (fun K hK => ?_) AllReadyH.nil
        have y0 := E7.out.c0
        have y1 := E7.out.c1
        have f0 := E7.out.fz 0
        have f1 := E7.out.fz 1
        have l7 := E7.out.lt
        have hwg : w.heap.size ≠ gA := by have hq := hgl; simp at hq; omega
        simp only [List.getElem_toArray, List.getElem_cons_zero, List.getElem_cons_succ]
        go_simp
        refine hK.out _ _ ⟨look_two hwg (SA.out _ KW.out).1 0 1 _ _, look_two hwg (SA.out _ KW.out).2 0 1 _ _⟩ (fun hHeld => ?_)
        clear hK K
        try simp only [Act.put, List.setIfInBounds_toArray, List.set_cons_zero, List.set_cons_succ, List.getElem_toArray, List.getElem_cons_zero, List.getElem_cons_succ]
        clear y0 y1 f0 f1 l7
        refine wpAnyH_take (i := 10) (v := ?_) rfl (by kernel_rfl) (by kernel_rfl) (by kernel_rfl) (fun _ _ _ h => h) (Or.inl ⟨by rfl, ?_⟩) (by assumption) ?_
        rotate_left 1
        · (intro w' hSw; (try dsimp only at hSw); go_simp; try with_reducible rfl)
        try simp only [Act.put, List.setIfInBounds_toArray, List.set_cons_zero, List.set_cons_succ, List.getElem_toArray, List.getElem_cons_zero, List.getElem_cons_succ]
        refine wpAnyH_done (by kernel_rfl) ?_ _
        have E8 := hide (E7.out.set X)
        have G8 := hide (chg2_at KW.out gA (fun l => absurd l (by first | omega | (simp; done) | (simp at hgl ⊢; omega))) 0 1 (.int .i64 X.v.1) (.int .i64 X.v.2))
        go_wp2_with fail
        go_meet
        case rel => exact ⟨_, rfl, rfl, E8, G8⟩
    · refine AllReadyH.cons rfl (fun K hK => ?_) AllReadyH.nil
      simp only [List.getElem_toArray, List.getElem_cons_zero, List.getElem_cons_succ]
      go_simp
      have E7 : Hid (ElB (World.alloc (w.alloc (.cells #[.int .i64 a1, .int .i64 b1] 36)) (.cells #[.int .i64 0, .int .i64 0] 37)).drew (w.alloc (.cells #[.int .i64 a1, .int .i64 b1] 36)).heap.size El.zr) := hide (ElB.keep (ElB.zero (w.alloc (.cells #[.int .i64 a1, .int .i64 b1] 36))) (Chg.refl nob _).drew1)
      have hgl : (w.alloc (.cells #[.int .i64 a1, .int .i64 b1] 36)).heap.size ≤ (w.alloc (.cells #[.int .i64 a1, .int .i64 b1] 36)).heap.size := Nat.le_refl _
      replace KW : Hid (Chg nob (w.alloc (.cells #[.int .i64 a1, .int .i64 b1] 36)) (World.alloc (w.alloc (.cells #[.int .i64 a1, .int .i64 b1] 36)) (.cells #[.int .i64 0, .int .i64 0] 37)).drew) := hide (((Chg.refl nob (w.alloc (.cells #[.int .i64 a1, .int .i64 b1] 36))).alloc _).drew1)
      generalize hUA : (World.alloc (w.alloc (.cells #[.int .i64 a1, .int .i64 b1] 36)) (.cells #[.int .i64 0, .int .i64 0] 37)).drew = UA at E7 KW ⊢
      clear hUA
      have hU0 : (w.alloc (.cells #[.int .i64 a1, .int .i64 b1] 36)).heap.size = w.heap.size + 1 := by simp
      rw [hU0] at E7 hgl
      clear hU0
      refine hK.out _ _ (SA.out _ KW.out) (fun hHeld => ?_)
      clear hK K
      try simp only [Act.put, List.setIfInBounds_toArray, List.set_cons_zero, List.set_cons_succ, List.getElem_toArray, List.getElem_cons_zero, List.getElem_cons_succ]
      refine wpAnyH_ready (rs := [1]) (by kernel_rfl) (by simp) ?_
      refine AllReadyH.cons rfl (fun K hK => ?_) AllReadyH.nil
      refine stepL_callN 10 #[.tmp 17] #[22] (by rfl) (by rfl) #[.slice c0 len0 cap0] (by simp only [List.map_toArray, List.map_cons, List.map_nil] <;> rfl) (run_go Try.func10 (by kernel_rfl) (by kernel_rfl) _ _) (toExtS_ex c0 len0 cap0 f0 g0 _ (hide (HPU.out.keep KW.out)) (by omega)) ?_
      rintro e U1 ⟨g1, he, hg1, rr, kk⟩
      have R1 := hide rr
      clear rr
      replace E7 := hide (E7.out.keep kk)
      refine ⟨_, he, ?_⟩
      replace KW := hide (KW.out.trans kk)
      refine hK.out _ _ (SA.out _ KW.out) (fun hHeld => ?_)
      clear hK K
      try simp only [Act.put, List.setIfInBounds_toArray, List.set_cons_zero, List.set_cons_succ, List.getElem_toArray, List.getElem_cons_zero, List.getElem_cons_succ]
      clear he kk
      refine wpAnyH_ready (rs := [3]) (by kernel_rfl) (by simp) ?_
      refine AllReadyH.cons rfl (fun K hK => ?_) AllReadyH.nil
      refine stepL_callN 20 #[.tmp 19] #[36] (by rfl) (by rfl) #[.agg #[.int .i64 a1, .int .i64 b1]] (by simp only [List.map_toArray, List.map_cons, List.map_nil] <;> rfl) (run_go Try.func20 (by kernel_rfl) (by kernel_rfl) _ _) (toExt_any a1 b1 _) ?_
      rintro e U2 ⟨he, kk⟩
      replace R1 := hide (rowIs_keep R1.out kk)
      replace E7 := hide (E7.out.keep kk)
      refine ⟨_, he, ?_⟩
      replace KW := hide (KW.out.trans kk)
      refine hK.out _ _ (SA.out _ KW.out) (fun hHeld => ?_)
      clear hK K
      try simp only [Act.put, List.setIfInBounds_toArray, List.set_cons_zero, List.set_cons_succ, List.getElem_toArray, List.getElem_cons_zero, List.getElem_cons_succ]
      clear he kk
      refine wpAnyH_ready (rs := [4]) (by kernel_rfl) (by simp) ?_
      refine AllReadyH.cons rfl (fun K hK => ?_) AllReadyH.nil
      refine stepL_callN 23 #[.tmp 18, .tmp 20] #[24, 37] (by rfl) (by rfl) #[.slice (some ⟨g1, 0, none⟩) len0 len0, .agg #[.int .i64 a1, .int .i64 b1]] (by simp only [List.map_toArray, List.map_cons, List.map_nil] <;> rfl) (run_go Try.func23 (by kernel_rfl) (by kernel_rfl) _ _) (HS.out _ _ (hide (PairV.of_row R1.out (Nat.le_refl _)))) ?_
      rintro e U3 ⟨he, kk⟩
      clear R1
      replace E7 := hide (E7.out.keep kk)
      refine ⟨_, he, ?_⟩
      replace KW := hide (KW.out.trans kk)
      refine hK.out _ _ (SA.out _ KW.out) (fun hHeld => ?_)
      clear hK K
      try simp only [Act.put, List.setIfInBounds_toArray, List.set_cons_zero, List.set_cons_succ, List.getElem_toArray, List.getElem_cons_zero, List.getElem_cons_succ]
      clear he kk
      refine wpAnyH_take (i := 5) (v := ?_) rfl (by kernel_rfl) (by kernel_rfl) (by kernel_rfl) (fun _ _ _ h => h) (Or.inl ⟨by rfl, ?_⟩) (by assumption) ?_
      rotate_left 1
      · (intro w' hSw; (try dsimp only at hSw); go_simp; try with_reducible rfl)
      try simp only [Act.put, List.setIfInBounds_toArray, List.set_cons_zero, List.set_cons_succ, List.getElem_toArray, List.getElem_cons_zero, List.getElem_cons_succ]
      refine wpAnyH_take (i := 6) (v := ?_) rfl (by kernel_rfl) (by kernel_rfl) (by kernel_rfl) (fun _ _ _ h => h) (Or.inl ⟨by rfl, ?_⟩) (by assumption) ?_
      rotate_left 1
      · (intro w' hSw; (try dsimp only at hSw); go_simp; try with_reducible rfl)
      try simp only [Act.put, List.setIfInBounds_toArray, List.set_cons_zero, List.set_cons_succ, List.getElem_toArray, List.getElem_cons_zero, List.getElem_cons_succ]
      refine wpAnyH_take (i := 7) (v := ?_) rfl (by kernel_rfl) (by kernel_rfl) (by kernel_rfl) (fun _ _ _ h => h) (Or.inl ⟨by rfl, ?_⟩) (by assumption) ?_
      rotate_left 1
      · (intro w' hSw; (try dsimp only at hSw); go_simp; try with_reducible rfl)
      try simp only [Act.put, List.setIfInBounds_toArray, List.set_cons_zero, List.set_cons_succ, List.getElem_toArray, List.getElem_cons_zero, List.getElem_cons_succ]
      refine wpAnyH_ready (rs := [9]) (by kernel_rfl) (by simp) ?_
      refine AllReadyH.cons rfl (fun K hK => ?_) AllReadyH.nil
      have y0 := E7.out.c0
      have y1 := E7.out.c1
      have f0 := E7.out.fz 0
      have f1 := E7.out.fz 1
      have l7 := E7.out.lt
      have hwg : w.heap.size ≠ (w.heap.size + 1) := by have hq := hgl; simp at hq; omega
      simp only [List.getElem_toArray, List.getElem_cons_zero, List.getElem_cons_succ]
      go_simp
      refine hK.out _ _ ⟨look_two hwg (SA.out _ KW.out).1 0 1 _ _, look_two hwg (SA.out _ KW.out).2 0 1 _ _⟩ (fun hHeld => ?_)
      clear hK K
      try simp only [Act.put, List.setIfInBounds_toArray, List.set_cons_zero, List.set_cons_succ, List.getElem_toArray, List.getElem_cons_zero, List.getElem_cons_succ]
      clear y0 y1 f0 f1 l7
      refine wpAnyH_take (i := 10) (v := ?_) rfl (by kernel_rfl) (by kernel_rfl) (by kernel_rfl) (fun _ _ _ h => h) (Or.inl ⟨by rfl, ?_⟩) (by assumption) ?_
      rotate_left 1
      · (intro w' hSw; (try dsimp only at hSw); go_simp; try with_reducible rfl)
      try simp only [Act.put, List.setIfInBounds_toArray, List.set_cons_zero, List.set_cons_succ, List.getElem_toArray, List.getElem_cons_zero, List.getElem_cons_succ]
      refine wpAnyH_done (by kernel_rfl) ?_ _
      have E8 := hide (E7.out.set X)
      have G8 := hide (chg2_at KW.out (w.heap.size + 1) (fun l => absurd l (by first | omega | (simp; done) | (simp at hgl ⊢; omega))) 0 1 (.int .i64 X.v.1) (.int .i64 X.v.2))
      go_wp2_with fail
      go_meet
      case rel => exact ⟨_, rfl, rfl, E8, G8⟩
  case rest =>
    obtain ⟨gg, rfl, rfl, HE, HG⟩ := hcut
    rename World => W2
    go_wp2_with fail
    refine (toExtS_any c0 len0 cap0 f0 g0 _ (hide (HPU.out.keep HG.out)) (by omega)).mono ?_
    rintro e W3 ⟨rfl, r3, k3⟩
    have R3 := hide r3
    have G3 := hide (HG.out.trans k3)
    have E3 := hide (HE.out.keep k3)
    clear r3 k3 HE
    have y0 := G3.out.see Z0.out
    have y1 := G3.out.see Z1.out
    go_wp2_with fail
    refine (toExt_any a1 b1 _).mono ?_
    rintro e WE ⟨rfl, kE⟩
    have EE := hide (E3.out.keep kE)
    have RE := hide (rowIs_keep R3.out kE)
    have GE := hide (G3.out.trans kE)
    clear kE E3 R3 G3 y0 y1
    go_wp2_with fail
    refine (HI.out _ _ (hide (PairV.of_row RE.out (Nat.le_refl _)))).mono ?_
    rintro e W4 ⟨rfl, k4⟩
    have kA := hide (k4.alloc (.cells #[.int .i64 X.v.1, .int .i64 X.v.2] 37))
    have E4 := hide (EE.out.keep kA.out)
    have R4 := hide (rowIs_keep RE.out kA.out)
    have G4 := hide (GE.out.trans kA.out)
    clear k4 kA RE GE EE
    have e0 := E4.out.c0
    have e1 := E4.out.c1
    go_wp2_with fail
    refine (eqExt_any X.v.1 X.v.2 _).mono ?_
    rintro e W5 ⟨rfl, k5⟩
    have R5 := hide (rowIs_keep R4.out k5)
    have G5 := hide (G4.out.trans k5)
    clear k5 R4 G4 E4 e0 e1
    go_wp2_with fail
    refine (toExtS_any c0 len0 cap0 f0 g0 _ (hide (HPU.out.keep G5.out)) (by omega)).mono ?_
    rintro e W6 ⟨rfl, r6, k6⟩
    have R6 := hide r6
    have G6 := hide (G5.out.trans k6)
    have Y6 := hide (rowIs_keep R5.out k6)
    clear r6 k6 R5 G5
    go_wp2_with fail
    refine (eqExtS_any _ _ len0 len0 len0 len0 f0 g0 f0 g0 _ (hide (PairV.of_row Y6.out (Nat.le_refl _))) (hide (PairV.of_row R6.out (Nat.le_refl _))) rfl (fun _ _ => ⟨rfl, rfl⟩) (by omega)).mono ?_
    rintro e W7 ⟨rfl, k7⟩
    have G7 := hide (G6.out.trans k7)
    clear k7
    go_wp2
    go_ret
    exact ⟨rfl, (((Chg.refl nob w).alloc _).trans G7.out).toBelow⟩

set_option maxRecDepth 100000 in
theorem lifted (os : Os) (started : os.Started) (H : Type) (enc : TypeId × Value → H) :
    ReturnsInHanded {} Try.checked os 7 .any (Rows.fnExactPolyAtSpec.pre6 enc Try.prog Try.f7 Rows.fnExactPolyAtRow.domain false) (Rows.fnExactPolyAtSpec.post enc Try.prog Try.f7 false true false false) := by
  refine returnsInHanded_of_change (C := Try.checked) own started (by kernel_rfl) Try.func7
    (ChangeSpec.witness6 (enc := enc) (C := Try.checked) false ⟨#[], #[.slice none 0 0, .agg #[.int .i64 0, .int .i64 0]], []⟩ 8 (by kernel_rfl) (by kernel_rfl) (by kernel_rfl) (by kernel_rfl)) ?_
  intro W base args ds gs before hval0 hW hcnd _
  have hval : ∀ (j : Nat) t v, Try.f7.params[j]? = some t → args[j]? = some v → Value.okWide Try.prog W .any base t v := hval0
  have hW' := hW
  obtain ⟨p, q, hA0, hV, rfl, hfz, hnd⟩ := hW
  have hA : DataW.TrodAll enc Try.prog W 0 (fun _ => true) true Try.f7.params.toList args.toList ds p := hA0
  rw [Try.params7] at hA hval
  obtain ⟨v0, vs0, d0, ds0, p0, q0, hargs, rfl, rfl, h0, r0⟩ := trodAll_cons hA
  obtain ⟨v1, vs1, d1, ds1, p1, q1, rfl, rfl, rfl, h1, r1⟩ := trodAll_cons r0
  obtain ⟨rfl, rfl, rfl⟩ := trodAll_nil r1
  obtain rfl : args = #[v0, v1] := by cases args; simp_all
  obtain ⟨rfl, rfl⟩ := trodVars_none hV
  have k0 := h0
  have lt0 : ∀ x ∈ p0, x.block < W.heap.size := by obtain ⟨m, hm⟩ := k0; exact DataW.trod_lt m _ _ _ hm
  obtain ⟨c0, len0, cap0, rfl⟩ := okWide_slice Try.underlying22 (hval 0 22 v0 rfl rfl)
  obtain ⟨f0, g0, w0⟩ : ∃ f g, IsPairs W c0 len0 cap0 f g := by
    obtain ⟨fuel, hf⟩ := h0
    rcases open_slice_pairs Try.underlying22 Try.underlying36 cellsE rfl rfl cellsI cellsI hf with ⟨hcs, _⟩ | ⟨x, l, c, m, n, V0, V1, D0, D1, P0, P1, hcs, _, hl, hm, hmm, _, hall⟩
    · simp [Value.cells] at hcs
      obtain ⟨rfl, rfl, rfl⟩ := hcs
      exact ⟨fun _ => 0, fun _ => 0, .inl ⟨rfl, rfl, rfl⟩⟩
    · simp [Value.cells] at hcs
      obtain ⟨rfl, rfl, rfl⟩ := hcs
      have hlm : len0 ≤ m := by rw [hmm]; split <;> omega
      refine ⟨fun i => cint (W.cell? (x.add (i * 2))), fun i => cint (W.cell? (x.add (i * 2 + 1))), .inr ⟨x, rfl, hl, hm, fun i hi => ?_⟩⟩
      obtain ⟨h1, h2, h3, h4⟩ := hall i (by omega)
      obtain ⟨a, ea, _, _⟩ := DataW.trod_int Try.underlying3 h3
      obtain ⟨b, eb, _, _⟩ := DataW.trod_int Try.underlying3 h4
      simp at ea eb
      rw [ea] at h1
      rw [eb] at h2
      simp [h1, h2, cint]
  have k1 := h1
  have lt1 : ∀ x ∈ p1, x.block < W.heap.size := by obtain ⟨m, hm⟩ := k1; exact DataW.trod_lt m _ _ _ hm
  obtain ⟨x1, z1, y1, u1, m1, rfl, rfl, rfl, hy1, hu1⟩ := open_agg2 Try.underlying36 (by kernel_rfl) cellsE (hval 1 36 v1 rfl rfl) h1
  obtain ⟨a1, e1, rfl, wa1⟩ := DataW.trod_int Try.underlying3 hy1
  obtain ⟨b1, e'1, rfl, wb1⟩ := DataW.trod_int Try.underlying3 hu1
  simp at e1 e'1
  subst e1 e'1
  clear hA0 hval0
  refine (walk c0 len0 cap0 f0 g0 a1 b1 W w0).mono fun e W' ⟨he, bel⟩ => ?_
  subst he
  exact ⟨_, rfl, _, _, _, [], _, [], hW', trodAll_mk1 (shut_bool Try.underlying4 _), (trodAll_cons_mk (Below.trod laidOut (by kernel_rfl) (of_decide_eq_true (by kernel_rfl)) k0 bel lt0) (trodAll_cons_mk (Below.trod laidOut (by kernel_rfl) (of_decide_eq_true (by kernel_rfl)) k1 bel lt1) trodAll_mk0)), rfl, bel.frame _, fun h => by cases h⟩

theorem over : Rows.fnExactPolyAtRow.holds Try.pinned (OpenSpec.ofChange Rows.fnExactPolyAtSpec) :=
  OpenClaim.holds_of_wide 7 Try.f7 rfl rfl rfl rfl rfl rfl rfl ⟨rfl, rfl, rfl, rfl, rfl⟩ rfl rfl rfl rfl rfl (by kernel_rfl) Try.func7 (by kernel_rfl)
    (of_decide_eq_true (by kernel_rfl)) (by unfold Func.isWrapper; first | (rw [if_pos (by decide +kernel)]; kernel_rfl) | (rw [if_neg (by decide +kernel)]; exact ⟨rfl, rfl⟩))
    (fun os started H enc _ => lifted os started H enc)

end Go.Proofs.Ytmcdkmohjmcjbap.fnExactPolyAt
namespace Go.Proofs.Ytmcdkmohjmcjbap
theorem FnExactPolyAt_holds : Rows.FnExactPolyAtSaid := fnExactPolyAt.over
#print axioms FnExactPolyAt_holds
end Go.Proofs.Ytmcdkmohjmcjbap
